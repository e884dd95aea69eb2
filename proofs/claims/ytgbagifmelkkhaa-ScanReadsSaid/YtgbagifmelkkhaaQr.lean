/- The contract of the statement's 'reads': a piece is read by the program as by the document, in every state of a Scan that a call made. -/
import Derived.Test.YtgbagifmelkkhaaQb
import Derived.Test.YtgbagifmelkkhaaSu
import Derived.Deep.RegionHeld3
import Derived.Outline
namespace Go.Proofs.Ytgbagifmelkkhaa
open Go.RowKit Vi

/-- what reads answers -/
def ReadsIs (B : Nat) (S : ByteArray) (w : World) (e : Ending) (w' : World) : Prop :=
  ∃ (q' : Nat) (er' : Int), q' ≤ S.size ∧ e = .returned (.tuple #[sv S q' er', .bool true]) ∧ Sc w' B true S q' er' ∧ But B w w'
/-- three boxes behind the heap's old end: a Scan by value, an Act, the result; and the Scan of the program's -/
structure Bx (n B : Nat) (S : ByteArray) (q : Nat) (er k m : Int) (x y z : Value) (w v : World) (q1 : Nat) (e1 : Int) : Prop where
  c0 : v.cell? ⟨n, 0, none⟩ = some (.string S)
  c1 : v.cell? ⟨n, 1, none⟩ = some (.int .i64 (q : Int))
  c2 : v.cell? ⟨n, 2, none⟩ = some (.int .i64 er)
  f0 : v.frozen? ⟨n, 0, none⟩ = false
  f1 : v.frozen? ⟨n, 1, none⟩ = false
  f2 : v.frozen? ⟨n, 2, none⟩ = false
  a0 : v.cell? ⟨n + 1, 0, none⟩ = some (.int .i64 k)
  a1 : v.cell? ⟨n + 1, 1, none⟩ = some (.int .i64 m)
  d0 : v.cell? ⟨n + 2, 0, none⟩ = some x
  d1 : v.cell? ⟨n + 2, 1, none⟩ = some y
  d2 : v.cell? ⟨n + 2, 2, none⟩ = some z
  g0 : v.frozen? ⟨n + 2, 0, none⟩ = false
  g1 : v.frozen? ⟨n + 2, 1, none⟩ = false
  g2 : v.frozen? ⟨n + 2, 2, none⟩ = false
  sc : Sc v B true S q1 e1
  hB : B < n
  hsz : n + 3 ≤ v.heap.size
  but : But B w v
  hn : n = w.heap.size
theorem But.cellOf {B : Nat} {w w' : World} (h : But B w w') {b i : Nat} (hb : b < w.heap.size) (hne : b ≠ B) : w'.cell? ⟨b, i, none⟩ = w.cell? ⟨b, i, none⟩ := by
  have := h.block b hb (by simp; exact hne)
  simp only [World.cell?, this]
theorem But.freeOf {B : Nat} {w w' : World} (h : But B w w') {b i : Nat} (hb : b < w.heap.size) (hne : b ≠ B) : w'.frozen? ⟨b, i, none⟩ = w.frozen? ⟨b, i, none⟩ := by
  have := h.block b hb (by simp; exact hne)
  simp only [World.frozen?, this]
/-- behind a call that turns block B alone -/
theorem Bx.later {n B : Nat} {S : ByteArray} {q : Nat} {er k m : Int} {x y z : Value} {w v v' : World} {q1 q2 : Nat} {e1 e2 : Int} (h : Bx n B S q er k m x y z w v q1 e1) (hb : But B v v') (hs : Sc v' B true S q2 e2) :
    Bx n B S q er k m x y z w v' q2 e2 := by
  obtain ⟨c0, c1, c2, f0, f1, f2, a0, a1, d0, d1, d2, g0, g1, g2, sc, hB, hsz, but, hn⟩ := h
  have s := hb.size
  have e : ∀ j i, j ≤ 2 → v'.cell? ⟨n + j, i, none⟩ = v.cell? ⟨n + j, i, none⟩ := fun j i hj => hb.cellOf (by omega) (by omega)
  have g : ∀ j i, j ≤ 2 → v'.frozen? ⟨n + j, i, none⟩ = v.frozen? ⟨n + j, i, none⟩ := fun j i hj => hb.freeOf (by omega) (by omega)
  exact ⟨(e 0 0 (by omega)).trans c0, (e 0 1 (by omega)).trans c1, (e 0 2 (by omega)).trans c2, (g 0 0 (by omega)).trans f0, (g 0 1 (by omega)).trans f1, (g 0 2 (by omega)).trans f2,
    (e 1 0 (by omega)).trans a0, (e 1 1 (by omega)).trans a1, (e 2 0 (by omega)).trans d0, (e 2 1 (by omega)).trans d1, (e 2 2 (by omega)).trans d2, (g 2 0 (by omega)).trans g0, (g 2 1 (by omega)).trans g1, (g 2 2 (by omega)).trans g2,
    hs, hB, by omega, but.trans hb, hn⟩
theorem Bx.below {n B : Nat} {S : ByteArray} {q : Nat} {er k m : Int} {x y z : Value} {w v v' : World} {q1 : Nat} {e1 : Int} (h : Bx n B S q er k m x y z w v q1 e1) (hb : Below v.heap.size v v') : Bx n B S q er k m x y z w v' q1 e1 :=
  h.later (But.of_below hb) (h.sc.kept (hb.block B (by have := h.hB; have := h.hsz; omega)))
theorem Bx.alloc {n B : Nat} {S : ByteArray} {q : Nat} {er k m : Int} {x y z : Value} {w v : World} {q1 : Nat} {e1 : Int} (h : Bx n B S q er k m x y z w v q1 e1) (o : Obj) : Bx n B S q er k m x y z w (v.alloc o) q1 e1 :=
  h.below ((Below.refl _ _).alloc (Nat.le_refl _) o)
/-- behind a store of a Scan into the first box -/
theorem Bx.set {n B : Nat} {S : ByteArray} {q : Nat} {er k m : Int} {x y z : Value} {w v : World} {q1 : Nat} {e1 : Int} (h : Bx n B S q er k m x y z w v q1 e1) (q2 : Nat) (e2 : Int) :
    Bx n B S q2 e2 k m x y z w (((v.setCell ⟨n, 0, none⟩ (.string S)).setCell ⟨n, 1, none⟩ (.int .i64 (q2 : Int))).setCell ⟨n, 2, none⟩ (.int .i64 e2)) q1 e1 := by
  obtain ⟨c0, c1, c2, f0, f1, f2, a0, a1, d0, d1, d2, g0, g1, g2, sc, hB, hsz, but, hn⟩ := h
  obtain ⟨s0, s1, s2⟩ := read3 c0 c1 c2 (.string S) (.int .i64 (q2 : Int)) (.int .i64 e2)
  have fc : ∀ {j i : Nat} {u : Value}, 0 < j → v.cell? ⟨n + j, i, none⟩ = some u → (((v.setCell ⟨n, 0, none⟩ (.string S)).setCell ⟨n, 1, none⟩ (.int .i64 (q2 : Int))).setCell ⟨n, 2, none⟩ (.int .i64 e2)).cell? ⟨n + j, i, none⟩ = some u :=
    fun hj hu => far_cell (far_cell (far_cell hu (by omega)) (by omega)) (by omega)
  have ff : ∀ {b i : Nat}, v.frozen? ⟨b, i, none⟩ = false → (((v.setCell ⟨n, 0, none⟩ (.string S)).setCell ⟨n, 1, none⟩ (.int .i64 (q2 : Int))).setCell ⟨n, 2, none⟩ (.int .i64 e2)).frozen? ⟨b, i, none⟩ = false :=
    fun hu => far_free (far_free (far_free hu))
  refine ⟨far_cell1 (far_cell1 s0 (by decide)) (by decide), far_cell1 s1 (by decide), s2, ff f0, ff f1, ff f2, fc (by omega) a0, fc (by omega) a1, fc (by omega) d0, fc (by omega) d1, fc (by omega) d2, ff g0, ff g1, ff g2, ?_, hB, by simpa using hsz,
    ((but.setNew (by omega) 0 _).setNew (by omega) 1 _).setNew (by omega) 2 _, hn⟩
  refine sc.kept ?_
  rw [Below.heap_setCell _ _ _ _ (by simp; omega), Below.heap_setCell _ _ _ _ (by simp; omega), Below.heap_setCell _ _ _ _ (by simp; omega)]
theorem Bx.laterD {n B : Nat} {S : ByteArray} {q : Nat} {er k m : Int} {x y z : Value} {w v v' : World} {q1 q2 : Nat} {e1 e2 : Int} (h : Bx n B S q er k m x y z w v q1 e1) (hb : But B v.drew v') (hs : Sc v' B true S q2 e2) :
    Bx n B S q er k m x y z w v' q2 e2 := (h.below ((Below.refl _ v).drew)).later hb hs
theorem Bx.fin {n B : Nat} {S : ByteArray} {q : Nat} {er k m : Int} {x y z : Value} {w v : World} {q1 : Nat} {e1 : Int} (h : Bx n B S q er k m x y z w v q1 e1) (a b c : Value) :
    Sc (((v.setCell ⟨n + 1 + 1, 0, none⟩ a).setCell ⟨n + 1 + 1, 1, none⟩ b).setCell ⟨n + 1 + 1, 2, none⟩ c) B true S q1 e1 ∧ But B w (((v.setCell ⟨n + 1 + 1, 0, none⟩ a).setCell ⟨n + 1 + 1, 1, none⟩ b).setCell ⟨n + 1 + 1, 2, none⟩ c) := by
  have h1 := h.hB
  have h2 := h.hn
  refine ⟨h.sc.kept ?_, ((h.but.setNew (by omega) 0 _).setNew (by omega) 1 _).setNew (by omega) 2 _⟩
  rw [Below.heap_setCell _ _ _ _ (by simp; omega), Below.heap_setCell _ _ _ _ (by simp; omega), Below.heap_setCell _ _ _ _ (by simp; omega)]
theorem Bx.drew {n B : Nat} {S : ByteArray} {q : Nat} {er k m : Int} {x y z : Value} {w v : World} {q1 : Nat} {e1 : Int} (h : Bx n B S q er k m x y z w v q1 e1) : Bx n B S q er k m x y z w v.drew q1 e1 := h.below ((Below.refl _ v).drew)
theorem Bx.start (B : Nat) (S : ByteArray) (q : Nat) (er k m : Int) (w : World) (h : Sc w B true S q er) :
    Bx w.heap.size B S q er k m (.string ⟨#[]⟩) (.int .i64 0) (.int .i64 0) w (((w.alloc (.cells #[.string S, .int .i64 (q : Int), .int .i64 er] 60)).alloc (.cells #[.int .i64 k, .int .i64 m] 62)).alloc (.cells #[.string ⟨#[]⟩, .int .i64 0, .int .i64 0] 60)) q er := by
  have r := Below.refl (((w.alloc (.cells #[.string S, .int .i64 (q : Int), .int .i64 er] 60)).alloc (.cells #[.int .i64 k, .int .i64 m] 62)).alloc (.cells #[.string ⟨#[]⟩, .int .i64 0, .int .i64 0] 60)).heap.size (((w.alloc (.cells #[.string S, .int .i64 (q : Int), .int .i64 er] 60)).alloc (.cells #[.int .i64 k, .int .i64 m] 62)).alloc (.cells #[.string ⟨#[]⟩, .int .i64 0, .int .i64 0] 60))
  have b1 := (((Below.refl _ ((w.alloc (.cells #[.string S, .int .i64 (q : Int), .int .i64 er] 60)).alloc (.cells #[.int .i64 k, .int .i64 m] 62))).alloc (Nat.le_refl _) (.cells #[.string ⟨#[]⟩, .int .i64 0, .int .i64 0] 60)))
  have b2 := (((Below.refl _ (w.alloc (.cells #[.string S, .int .i64 (q : Int), .int .i64 er] 60))).alloc (Nat.le_refl _) (.cells #[.int .i64 k, .int .i64 m] 62)).alloc (by simp) (.cells #[.string ⟨#[]⟩, .int .i64 0, .int .i64 0] 60))
  exact ⟨box_at b2 rfl 0 rfl, box_at b2 rfl 1 rfl, box_at b2 rfl 2 rfl, box_free b2 rfl 0, box_free b2 rfl 1, box_free b2 rfl 2, box_at b1 (by simp) 0 rfl, box_at b1 (by simp) 1 rfl,
    box_at r (by simp) 0 rfl, box_at r (by simp) 1 rfl, box_at r (by simp) 2 rfl, box_free r (by simp) 0, box_free r (by simp) 1, box_free r (by simp) 2, ((h.alloc _).alloc _).alloc _, h.lt, by simp, (((But.refl B w).alloc _).alloc _).alloc _, rfl⟩

set_option maxHeartbeats 3200000 in
set_option maxRecDepth 100000 in
theorem reads1 (B : Nat) (S : ByteArray) (q : Nat) (er n : Int) (w : World) (hS : S.size ≤ 1000000) (hq : q ≤ S.size) (hs : Sc w B true S q er) (hn0 : -9223372036854775808 ≤ n) (hn1 : n ≤ 9223372036854775807) :
    Calls Try.prog 56 #[.pointer (some ⟨B, 0, none⟩), .agg #[.string S, .int .i64 (q : Int), .int .i64 er], .agg #[.int .i64 1, .int .i64 n]] w (ReadsIs B S w) := by
  have HB := Lib.hid (Bx.start B S q er 1 n w hs)
  obtain ⟨y, q1, e1, hF⟩ : ∃ y q' e', Rd.fix S q er n = (y, q', e') := ⟨_, _, _, rfl⟩
  have hq1 : q1 ≤ S.size := by have := Rd.fix_le S q er n hq; rw [hF] at this; exact this
  have HF := Lib.hid hF
  clear hF
  go_enter Try.func56, Try.ntmps56
  go_wp2_with fail
  refine (rFix_any S q er n _ hS hq hn0 hn1).mono ?_
  rintro e w1 ⟨rfl, hb1⟩
  rw [HF.out]
  have HB1 := Lib.hid (HB.out.below hb1)
  clear hb1
  have hsz1 := HB1.out.hsz
  have HB2 := Lib.hid (HB1.out.alloc (.cells #[.string S, .int .i64 (q1 : Int), .int .i64 e1] 60))
  have r9 := Below.refl (w1.alloc (.cells #[.string S, .int .i64 (q1 : Int), .int .i64 e1] 60)).heap.size (w1.alloc (.cells #[.string S, .int .i64 (q1 : Int), .int .i64 e1] 60))
  have t0 := box_at r9 rfl 0 rfl
  have t1 := box_at r9 rfl 1 rfl
  have t2 := box_at r9 rfl 2 rfl
  have hs9 : w1.heap.size < (w1.alloc (.cells #[.string S, .int .i64 (q1 : Int), .int .i64 e1] 60)).heap.size := by simp
  have HT := Lib.hid (And.intro t0 (And.intro t1 (And.intro t2 hs9)))
  clear t0 t1 t2 r9 hs9
  unfold sv
  go_wp2_with fail
  generalize (w1.alloc (.cells #[.string S, .int .i64 (q1 : Int), .int .i64 e1] 60)) = v1 at *
  obtain ⟨t0, t1, t2, hs9⟩ := HT.out
  have hne : ¬ w.heap.size = w1.heap.size := by omega
  have hBn : B < w.heap.size := HB2.out.hB
  have a1 := HB2.out.a1
  have f0 := HB2.out.f0
  have f1 := HB2.out.f1
  have f2 := HB2.out.f2
  have c0 := HB2.out.c0
  have c1 := HB2.out.c1
  have c2 := HB2.out.c2
  have hqq : (y.toList == y.toList) = true := by simp
  simp only [List.getElem_toArray, List.getElem_cons_zero, List.getElem_cons_succ] at t0 t1 t2
  go_region_held3 (fun w' => w'.cell? ⟨w1.heap.size, 0, none⟩ = some (.string S) ∧ w'.cell? ⟨w1.heap.size, 1, none⟩ = some (.int .i64 (q1 : Int)) ∧ w'.cell? ⟨w1.heap.size, 2, none⟩ = some (.int .i64 e1) ∧ w'.cell? ⟨w.heap.size + 1, 1, none⟩ = some (.int .i64 n)) (go_keep)
    (first | (go_at_call 85; refine (fixU _ B S q er n hS hq ?_).mono ?_; (exact HB2.out.sc); rintro e v2 ⟨rfl, hs2, hb2⟩; rw [HF.out] at hs2; rw [HF.out]; have k0 := (hb2.cellOf (b := w1.heap.size) (i := 0) hs9 (by omega)).trans t0; have k1 := (hb2.cellOf (b := w1.heap.size) (i := 1) hs9 (by omega)).trans t1; have k2 := (hb2.cellOf (b := w1.heap.size) (i := 2) hs9 (by omega)).trans t2; have X := HB2.out.laterD hb2 hs2; have k3 := X.a1; have k4 := X.c0; have k5 := X.c1; have k6 := X.c2; have k7 := X.f0; have k8 := X.f1; have k9 := X.f2; have HX := Lib.hid X; clear X hs2 hb2))
  go_wp2_with fail
  have HX2 := Lib.hid (HX.out.set q1 e1)
  clear HX k0 k1 k2 k3 k4 k5 k6 k7 k8 k9 HT HB2 t0 t1 t2 hs9 a1 f0 f1 f2 c0 c1 c2 hqq hne HB1 HB hsz1
  generalize (((v2.setCell ⟨w.heap.size, 0, none⟩ (.string S)).setCell ⟨w.heap.size, 1, none⟩ (.int .i64 (q1 : Int))).setCell ⟨w.heap.size, 2, none⟩ (.int .i64 e1)) = v3 at *
  have c0 := HX2.out.c0
  have c1 := HX2.out.c1
  have c2 := HX2.out.c2
  have d0 : v3.cell? ⟨w.heap.size + 1 + 1, 0, none⟩ = _ := HX2.out.d0
  have d1 : v3.cell? ⟨w.heap.size + 1 + 1, 1, none⟩ = _ := HX2.out.d1
  have d2 : v3.cell? ⟨w.heap.size + 1 + 1, 2, none⟩ = _ := HX2.out.d2
  have g0 : v3.frozen? ⟨w.heap.size + 1 + 1, 0, none⟩ = _ := HX2.out.g0
  have g1 : v3.frozen? ⟨w.heap.size + 1 + 1, 1, none⟩ = _ := HX2.out.g1
  have g2 : v3.frozen? ⟨w.heap.size + 1 + 1, 2, none⟩ = _ := HX2.out.g2
  obtain ⟨r0, r1, r2⟩ := read3 d0 d1 d2 (.string S) (.int .i64 (q1 : Int)) (.int .i64 e1)
  have qe : (e1 == e1) = true := by simp
  have qq : ((q1 : Int) == (q1 : Int)) = true := by simp
  have hnn : ¬ w.heap.size + 1 + 1 = w.heap.size := by omega
  go_region_held3 (fun w' => w'.cell? ⟨w.heap.size, 0, none⟩ = some (.string S) ∧ w'.cell? ⟨w.heap.size, 1, none⟩ = some (.int .i64 (q1 : Int)) ∧ w'.cell? ⟨w.heap.size, 2, none⟩ = some (.int .i64 e1)) (first | go_keep | exact ⟨far_cell (far_cell (far_cell c0 hnn) hnn) hnn, far_cell (far_cell (far_cell c1 hnn) hnn) hnn, far_cell (far_cell (far_cell c2 hnn) hnn) hnn⟩)
    (first | (go_at_call 82; refine (err_any _ B true S q1 e1 ?_).mono ?_; (exact HX2.out.sc); rintro e w' ⟨rfl, rfl⟩; rw [if_pos rfl]) | (go_at_call 83; refine (at_any _ B true S q1 e1 ?_).mono ?_; (exact HX2.out.sc); rintro e w' ⟨rfl, rfl⟩))
  go_wp2_with fail
  refine bodyPost_ret (v := .tuple #[sv S q1 e1, .bool true]) (by simp [sv, results, Try.results56, go_sem, r0, r1, r2]) rfl ⟨q1, e1, hq1, rfl, ?_, ?_⟩
  · exact Sc.drew (HX2.out.fin _ _ _).1
  · exact But.drew (HX2.out.fin _ _ _).2
end Go.Proofs.Ytgbagifmelkkhaa
