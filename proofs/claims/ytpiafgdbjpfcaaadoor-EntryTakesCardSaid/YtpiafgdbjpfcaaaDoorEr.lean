/- The contract of entry.read over this translation. Condition: texts of at most a million bytes. -/
import Derived.Test.YtpiafgdbjpfcaaaDoorYh
namespace Go.Proofs.YtpiafgdbjpfcaaaDoor
open Go.RowKit Vi Cm

theorem info_rec (a b k x o n t u : Value) : (Tryd.prog.info? 37).map (·.size) = some (#[a, b, k, x, o, n, t, u] : Array Value).size := by kernel_rfl
theorem one_rec (a b k : Int) (x o n : ByteArray) (t u : Int) : (#[.int .i64 a, .int .i64 b, .int .i64 k, .string x, .string o, .string n, .int .i64 t, .int .i64 u] : Array Value).all (·.oneCell') = true := by simp [Value.oneCell']
theorem results_cE {fn : Func} {p : Tmp} {ty : TypeId} (h : fn.results = #[.cell p ty]) (tmps : Array Value) (w : World) (g : Nat) (cs : Array Value)
    (hp : tmps.getD p undef = .pointer (some ⟨g, 0, none⟩)) (hr : (loadVar ty ⟨g, 0, none⟩).run Tryd.prog w = .ok (.agg cs) w) :
    (results fn tmps).run Tryd.prog w = .ok (.agg cs) w := by
  have hp' : tmps[p]?.getD undef = .pointer (some ⟨g, 0, none⟩) := by simpa using hp
  simp [results, h, hp', asAddr, hr]
theorem but_rowE {B : Nat} {w W W' : World} (h : But B w W) (hb : Below w.heap.size W W') : But B w W' :=
  ⟨hb.os.trans h.os, hb.tape.trans h.tape, hb.output.trans h.output, Nat.le_trans h.size hb.size, fun i hi hne => (hb.block i hi).trans (h.block i hi hne)⟩
set_option maxHeartbeats 4000000 in
set_option maxRecDepth 100000 in
theorem eread_any (w : World) (B : Nat) (X : ByteArray) (q0 q1 q2 q3 q4 q5 q6 q7 q8 : Nat) (e0 e1 e2 e3 e4 e5 e6 e7 e8 a b k : Int) (x o n : ByteArray) (t u : Int) (hS : X.size ≤ 1000000) (hq : q0 ≤ X.size) (h : Sc w B true X q0 e0)
    (h1 : Rd.num X q0 e0 4294967295 = (a, q1, e1)) (h2 : Rd.num X q1 e1 4095 = (b, q2, e2)) (h3 : Rd.num X q2 e2 2 = (k, q3, e3)) (h4 : Rd.text X q3 e3 12 = (x, q4, e4)) (h5 : Rd.text X q4 e4 32 = (o, q5, e5)) (h6 : Rd.text X q5 e5 32 = (n, q6, e6)) (h7 : Rd.num X q6 e6 524288 = (t, q7, e7)) (h8 : Rd.num X q7 e7 4294967296 = (u, q8, e8)) :
    Calls Tryd.prog 53 #[.func (.func 54) #[.pointer (some ⟨B, 0, none⟩)] #[], .func (.func 55) #[.pointer (some ⟨B, 0, none⟩)] #[]] w
      fun e w' => e = .returned (.agg #[.int .i64 a, .int .i64 b, .int .i64 k, .string x, .string o, .string n, .int .i64 t, .int .i64 u]) ∧ Sc w' B true X q8 e8 ∧ But B w w' := by
  have hBlt := h.lt
  have l1 : q1 ≤ X.size := by have := Rd.num_le X q0 e0 4294967295 hq; rw [h1] at this; exact this
  have l2 : q2 ≤ X.size := by have := Rd.num_le X q1 e1 4095 l1; rw [h2] at this; exact this
  have l3 : q3 ≤ X.size := by have := Rd.num_le X q2 e2 2 l2; rw [h3] at this; exact this
  have l4 : q4 ≤ X.size := by have := Rd.text_le X q3 e3 12 l3; rw [h4] at this; exact this
  have l5 : q5 ≤ X.size := by have := Rd.text_le X q4 e4 32 l4; rw [h5] at this; exact this
  have l6 : q6 ≤ X.size := by have := Rd.text_le X q5 e5 32 l5; rw [h6] at this; exact this
  have l7 : q7 ≤ X.size := by have := Rd.num_le X q6 e6 524288 l6; rw [h7] at this; exact this
  have l8 : q8 ≤ X.size := by have := Rd.num_le X q7 e7 4294967296 l7; rw [h8] at this; exact this
  have H1 := Lib.hid (fun (W : World) (g : Sc W B true X q0 e0) => numU W B X q0 e0 4294967295 hS hq g (by omega))
  rw [h1] at H1
  dsimp only at H1
  have H2 := Lib.hid (fun (W : World) (g : Sc W B true X q1 e1) => numU W B X q1 e1 4095 hS l1 g (by omega))
  rw [h2] at H2
  dsimp only at H2
  have H3 := Lib.hid (fun (W : World) (g : Sc W B true X q2 e2) => numU W B X q2 e2 2 hS l2 g (by omega))
  rw [h3] at H3
  dsimp only at H3
  have H4 := Lib.hid (fun (W : World) (g : Sc W B true X q3 e3) => textU W B X q3 e3 12 hS l3 g (by omega))
  rw [h4] at H4
  dsimp only at H4
  have H5 := Lib.hid (fun (W : World) (g : Sc W B true X q4 e4) => textU W B X q4 e4 32 hS l4 g (by omega))
  rw [h5] at H5
  dsimp only at H5
  have H6 := Lib.hid (fun (W : World) (g : Sc W B true X q5 e5) => textU W B X q5 e5 32 hS l5 g (by omega))
  rw [h6] at H6
  dsimp only at H6
  have H7 := Lib.hid (fun (W : World) (g : Sc W B true X q6 e6) => numU W B X q6 e6 524288 hS l6 g (by omega))
  rw [h7] at H7
  dsimp only at H7
  have H8 := Lib.hid (fun (W : World) (g : Sc W B true X q7 e7) => numU W B X q7 e7 4294967296 hS l7 g (by omega))
  rw [h8] at H8
  dsimp only at H8
  clear h1 h2 h3 h4 h5 h6 h7 h8 l1 l2 l3 l4 l5 l6 l7 l8 hq
  have HK1 := Lib.hid (But.refl B w)
  have HS2 := Lib.hid h
  clear h
  go_enter Tryd.func53, Tryd.ntmps53
  go_wp2_with fail
  have HF3 := Lib.hid (blk_new w (.cells #[.int .i64 0, .int .i64 0, .int .i64 0, .string ⟨#[]⟩, .string ⟨#[]⟩, .string ⟨#[]⟩, .int .i64 0, .int .i64 0] 37 (0, 0)))
  have HK4 := Lib.hid (HK1.out.alloc (.cells #[.int .i64 0, .int .i64 0, .int .i64 0, .string ⟨#[]⟩, .string ⟨#[]⟩, .string ⟨#[]⟩, .int .i64 0, .int .i64 0] 37 (0, 0)))
  clear HK1
  have HS5 := Lib.hid (HS2.out.alloc (.cells #[.int .i64 0, .int .i64 0, .int .i64 0, .string ⟨#[]⟩, .string ⟨#[]⟩, .string ⟨#[]⟩, .int .i64 0, .int .i64 0] 37 (0, 0)))
  clear HS2
  refine (H1.out (w.alloc (.cells #[.int .i64 0, .int .i64 0, .int .i64 0, .string ⟨#[]⟩, .string ⟨#[]⟩, .string ⟨#[]⟩, .int .i64 0, .int .i64 0] 37 (0, 0))) HS5.out).mono ?_
  rintro e w1 ⟨rfl, hs, hk⟩
  have HF6 := Lib.hid (blk_but HF3.out hk (by omega))
  have HK7 := Lib.hid (HK4.out.trans hk)
  have HS8 := Lib.hid (hs)
  clear hs hk HK4 HS5 HF3
  have hk9 := HK7.out.size
  go_wp2_with fail
  refine (H2.out w1 HS8.out).mono ?_
  rintro e w2 ⟨rfl, hs, hk⟩
  have HF10 := Lib.hid (blk_but HF6.out hk (by omega))
  have HK11 := Lib.hid (HK7.out.trans hk)
  have HS12 := Lib.hid (hs)
  clear hs hk HK7 HS8 HF6
  have hk13 := HK11.out.size
  go_wp2_with fail
  refine (H3.out w2 HS12.out).mono ?_
  rintro e w3 ⟨rfl, hs, hk⟩
  have HF14 := Lib.hid (blk_but HF10.out hk (by omega))
  have HK15 := Lib.hid (HK11.out.trans hk)
  have HS16 := Lib.hid (hs)
  clear hs hk HK11 HS12 HF10
  have hk17 := HK15.out.size
  go_wp2_with fail
  refine (H4.out w3 HS16.out).mono ?_
  rintro e w4 ⟨rfl, hs, hk⟩
  have HF18 := Lib.hid (blk_but HF14.out hk (by omega))
  have HK19 := Lib.hid (HK15.out.trans hk)
  have HS20 := Lib.hid (hs)
  clear hs hk HK15 HS16 HF14
  have hk21 := HK19.out.size
  go_wp2_with fail
  refine (H5.out w4 HS20.out).mono ?_
  rintro e w5 ⟨rfl, hs, hk⟩
  have HF22 := Lib.hid (blk_but HF18.out hk (by omega))
  have HK23 := Lib.hid (HK19.out.trans hk)
  have HS24 := Lib.hid (hs)
  clear hs hk HK19 HS20 HF18
  have hk25 := HK23.out.size
  go_wp2_with fail
  refine (H6.out w5 HS24.out).mono ?_
  rintro e w6 ⟨rfl, hs, hk⟩
  have HF26 := Lib.hid (blk_but HF22.out hk (by omega))
  have HK27 := Lib.hid (HK23.out.trans hk)
  have HS28 := Lib.hid (hs)
  clear hs hk HK23 HS24 HF22
  have hk29 := HK27.out.size
  go_wp2_with fail
  refine (H7.out w6 HS28.out).mono ?_
  rintro e w7 ⟨rfl, hs, hk⟩
  have HF30 := Lib.hid (blk_but HF26.out hk (by omega))
  have HK31 := Lib.hid (HK27.out.trans hk)
  have HS32 := Lib.hid (hs)
  clear hs hk HK27 HS28 HF26
  have hk33 := HK31.out.size
  go_wp2_with fail
  refine (H8.out w7 HS32.out).mono ?_
  rintro e w8 ⟨rfl, hs, hk⟩
  have HF34 := Lib.hid (blk_but HF30.out hk (by omega))
  have HK35 := Lib.hid (HK31.out.trans hk)
  have HS36 := Lib.hid (hs)
  clear hs hk HK31 HS32 HF30
  have hk37 := HK35.out.size
  go_wp2_with (refine wpList_store_rowY rfl 37 (.tmp 4) (.tmp 21) rfl (w.heap.size) #[.int .i64 a, .int .i64 b, .int .i64 k, .string x, .string o, .string n, .int .i64 t, .int .i64 u] rfl rfl 37 _ HF34.out (info_rec _ _ _ _ _ _ _ _) rfl (one_rec _ _ _ _ _ _ _ _) (w.heap.size) w8 (Below.refl _ _) (by omega) ?_)
  intro W9 hbk hoth hbel _
  have HK9 := Lib.hid (but_rowE HK35.out (hbel.out.mono (by omega)))
  have HS9 := Lib.hid (HS36.out.kept (hoth.out B (by omega)))
  go_wp2_with fail
  refine bodyPost_ret (results_cE rfl _ _ (w.heap.size) #[.int .i64 a, .int .i64 b, .int .i64 k, .string x, .string o, .string n, .int .i64 t, .int .i64 u] rfl (run_loadVar_row _ (w.heap.size) 37 37 _ (0, 0) _ hbk.out Tryd.underlying37 rfl (info_rec _ _ _ _ _ _ _ _))) rfl ?_
  exact ⟨rfl, HS9.out, HK9.out⟩
end Go.Proofs.YtpiafgdbjpfcaaaDoor
