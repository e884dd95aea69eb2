/- P26.2: in any graph that may be: any node, any edge, the edges from a node and to it, the nodes with a label. Condition: texts that are no longer than a text may be. -/
import Derived.Test.YtagenkofoacajaaGreatGHm
import Derived.Test.YtagenkofoacajaaGreatGQb
import Derived.Test.YtagenkofoacajaaGreatGQd
import Derived.Test.YtagenkofoacajaaGreatOLb
namespace Go.Proofs.YtagenkofoacajaaGreat.LGraphFinds
open Go.RowKit Vi

structure GF (A A2 : Option Addr) (n c n2 c2 : Nat) (X : List Nd) (Y : List Ed) (w W : World) : Prop where
  gb : W.heap[w.heap.size]? = some (.cells #[.slice A n c, .slice A2 n2 c2] 25 (0, 0))
  gr : GrIs W A n A2 n2 X Y
  bel : Below w.heap.size w W
section
variable {A A2 : Option Addr} {n c n2 c2 : Nat} {X : List Nd} {Y : List Ed} {w W W' : World}
theorem GF.later (h : GF A A2 n c n2 c2 X Y w W) (hb : Below W.heap.size W W') : GF A A2 n c n2 c2 X Y w W' := ⟨blk_below h.gb hb, h.gr.below hb, h.bel.trans (hb.mono h.bel.size)⟩
theorem GF.k0 (h : GF A A2 n c n2 c2 X Y w W) : W.cell? ⟨w.heap.size, 0, none⟩ = some (.slice A n c) := (cell_of_row _ _ 0 _ _ _ h.gb).trans rfl
theorem GF.k1 (h : GF A A2 n c n2 c2 X Y w W) : W.cell? ⟨w.heap.size, 1, none⟩ = some (.slice A2 n2 c2) := (cell_of_row _ _ 1 _ _ _ h.gb).trans rfl
end
def RowE (Yf : List Ed) (w : World) (e : Ending) (w' : World) : Prop := ∃ A c R, e = .returned (.slice A Yf.length c) ∧ RdX edC 5 w' A Yf.length R ∧ EdsIs w' R Yf ∧ Below w.heap.size w w'
def RowN (Xf : List Nd) (w : World) (e : Ending) (w' : World) : Prop := ∃ A c R, e = .returned (.slice A Xf.length c) ∧ RdX ndC 3 w' A Xf.length R ∧ NdsIs w' R Xf ∧ Below w.heap.size w w'
theorem Picke.row {Yf : List Ed} {w w' : World} {e : Ending} (h : Picke Yf w e w') : RowE Yf w e w' := by
  obtain ⟨v, R, rfl, ho, hd, hb⟩ := h
  obtain ⟨A, c, e, hr, _, _⟩ := ho.rd edC_len
  subst e
  rw [hd.len] at hr ⊢
  exact ⟨A, c, R, rfl, hr, hd.is, hb⟩
theorem Pickn.row {Xf : List Nd} {w w' : World} {e : Ending} (h : Pickn Xf w e w') : RowN Xf w e w' := by
  obtain ⟨v, R, rfl, ho, hd, hb⟩ := h
  obtain ⟨A, c, e, hr, _, _⟩ := ho.rd ndC_len
  subst e
  rw [hd.len] at hr ⊢
  exact ⟨A, c, R, rfl, hr, hd.is, hb⟩
theorem Doce.row {Yf : List Ed} {w w' : World} {e : Ending} (h : Doce Yf w e w') : RowE Yf w e w' := by
  obtain ⟨v, R, rfl, ho, hd, hb⟩ := h
  obtain ⟨A, c, e, hr, _, _⟩ := ho.rd edC_len
  subst e
  rw [hd.len] at hr ⊢
  exact ⟨A, c, R, rfl, hr, hd, hb⟩
theorem Docn.row {Xf : List Nd} {w w' : World} {e : Ending} (h : Docn Xf w e w') : RowN Xf w e w' := by
  obtain ⟨v, R, rfl, ho, hd, hb⟩ := h
  obtain ⟨A, c, e, hr, _, _⟩ := ho.rd ndC_len
  subst e
  rw [hd.len] at hr ⊢
  exact ⟨A, c, R, rfl, hr, hd, hb⟩
/-- what was found, or nothing -/
def GotN (X : List Nd) (s : ByteArray) (m : Bool) (w : World) (e : Ending) (w' : World) : Prop := ∃ (i : ByteArray) (a1 : Option Addr) (a3 : Nat) (b1 : Option Addr) (b3 : Nat) (ss : List ByteArray) (ps : List Pr), e = .returned (.tuple #[.agg #[.string i, .slice a1 ss.length a3, .slice b1 ps.length b3], .bool m]) ∧ LP w' a1 ss.length ss b1 ps.length ps ∧ Below w.heap.size w w' ∧ (m = true → X[lessN (keys1 X) s]? = some (i, ss, ps)) ∧ (m = false → i = ⟨#[]⟩ ∧ ss = [] ∧ ps = [])
def GotE (X : List Ed) (s : ByteArray) (m : Bool) (w : World) (e : Ending) (w' : World) : Prop := ∃ (i f g : ByteArray) (a1 : Option Addr) (a3 : Nat) (b1 : Option Addr) (b3 : Nat) (ss : List ByteArray) (ps : List Pr), e = .returned (.tuple #[.agg #[.string i, .string f, .string g, .slice a1 ss.length a3, .slice b1 ps.length b3], .bool m]) ∧ LP w' a1 ss.length ss b1 ps.length ps ∧ Below w.heap.size w w' ∧ (m = true → X[lessN (keys1 X) s]? = some (i, f, g, ss, ps)) ∧ (m = false → i = ⟨#[]⟩ ∧ f = ⟨#[]⟩ ∧ g = ⟨#[]⟩ ∧ ss = [] ∧ ps = [])
theorem lp_nil (w : World) : LP w none 0 [] none 0 [] := ⟨⟨rfl, fun h => absurd h (Nat.lt_irrefl 0)⟩, ⟨rfl, fun h => absurd h (Nat.lt_irrefl 0)⟩⟩
theorem PO.lens {w : World} {a b : SlA} {ss : List ByteArray} {ps : List Pr} (h : PO w a b ss ps) : a.n = ss.length ∧ b.n = ps.length := ⟨h.lp.l.1.symm, h.lp.p.1.symm⟩
theorem Fndn.got {X : List Nd} {s : ByteArray} {w w' : World} {e : Ending} (h : Fndn X s w e w') : GotN X s (inB (keys1 X) s) w e w' := by
  cases hm : inB (keys1 X) s with
  | true =>
    obtain ⟨⟨i, ss, ps⟩, ⟨a1, a2, a3⟩, ⟨b1, b2, b3⟩, hx, rfl, hp, hb⟩ := h.1 hm
    obtain ⟨e1, e2⟩ := PO.lens hp
    have e1 : a2 = ss.length := e1
    have e2 : b2 = ps.length := e2
    subst e1 e2
    exact ⟨i, a1, a3, b1, b3, ss, ps, rfl, hp.lp, hb, fun _ => hx, fun e => (by cases e)⟩
  | false =>
    obtain ⟨rfl, hb⟩ := h.2 hm
    exact ⟨⟨#[]⟩, none, 0, none, 0, [], [], rfl, lp_nil _, hb, fun e => (by cases e), fun _ => ⟨rfl, rfl, rfl⟩⟩
theorem Fnde.got {X : List Ed} {s : ByteArray} {w w' : World} {e : Ending} (h : Fnde X s w e w') : GotE X s (inB (keys1 X) s) w e w' := by
  cases hm : inB (keys1 X) s with
  | true =>
    obtain ⟨⟨i, f, g, ss, ps⟩, ⟨a1, a2, a3⟩, ⟨b1, b2, b3⟩, hx, rfl, hp, hb⟩ := h.1 hm
    obtain ⟨e1, e2⟩ := PO.lens hp
    have e1 : a2 = ss.length := e1
    have e2 : b2 = ps.length := e2
    subst e1 e2
    exact ⟨i, f, g, a1, a3, b1, b3, ss, ps, rfl, hp.lp, hb, fun _ => hx, fun e => (by cases e)⟩
  | false =>
    obtain ⟨rfl, hb⟩ := h.2 hm
    exact ⟨⟨#[]⟩, ⟨#[]⟩, ⟨#[]⟩, none, 0, none, 0, [], [], rfl, lp_nil _, hb, fun e => (by cases e), fun _ => ⟨rfl, rfl, rfl, rfl, rfl⟩⟩
theorem ndE_rise {x : Nd} (h : ndE x = 0) : Rise x.2.1 := by
  unfold ndE ndW at h
  split at h
  · cases h
  · unfold rsW at h
    split at h
    · cases h
    · split at h
      · next h2 => exact absurd h h2
      · next h2 => exact (row0_ok _ (by simpa using h2)).2
theorem wrN_rise : ∀ (p : ByteArray) (X : List Nd), wrN p X = 0 → ∀ x ∈ X, Rise x.2.1
  | _, [], _ => fun x hx => by cases hx
  | p, x :: r, h => by
    unfold wrN at h
    split at h
    · next h1 => exact absurd h h1
    · next h1 =>
      split at h
      · cases h
      · intro y hy
        rcases List.mem_cons.1 hy with rfl | hy
        · exact ndE_rise (by simpa using h1)
        · exact wrN_rise _ r h y hy
theorem gW_labels {X : List Nd} {Y : List Ed} (h : gW X Y = 0) : ∀ x ∈ X, Rise x.2.1 := by
  unfold gW at h
  split at h
  · cases h
  · split at h
    · next h2 => exact absurd h h2
    · next h2 => exact wrN_rise _ X (by simpa using h2)
set_option maxRecDepth 100000 in
set_option maxHeartbeats 16000000 in
theorem walk (A A2 : Option Addr) (n c n2 c2 : Nat) (X : List Nd) (Y : List Ed) (s t : ByteArray) (w : World) (h : GrIs w A n A2 n2 X Y) (k : GrOk X Y) :
    Calls Tryz.prog 3 #[.agg #[.slice A n c, .slice A2 n2 c2], .string s, .string t] w fun e w' => e = .returned (.bool true) ∧ Below w.heap.size w w' := by
  have HFA := Lib.hid (fun (W : World) (q : GrIs W A n A2 n2 X Y) => few26s_any A A2 n c n2 c2 X Y W q)
  have HWR := Lib.hid (fun (W : World) (q : GrIs W A n A2 n2 X Y) => wrong26_any A A2 n c n2 c2 X Y W q k)
  have HL := Lib.hid h.nl
  obtain ⟨z, hz⟩ : ∃ z, z = gW X Y := ⟨_, rfl⟩
  rw [← hz] at HWR
  have HZ := Lib.hid hz
  have hb0 : Below w.heap.size w (w.alloc (.cells #[.slice A n c, .slice A2 n2 c2] 25 (0, 0))) := (Below.refl _ _).alloc (Nat.le_refl _) _
  have ST : GF A A2 n c n2 c2 X Y w (w.alloc (.cells #[.slice A n c, .slice A2 n2 c2] 25 (0, 0))) := ⟨blk_new w _, h.below hb0, hb0⟩
  obtain ⟨v, hv⟩ : ∃ v, v = w.alloc (.cells #[.slice A n c, .slice A2 n2 c2] 25 (0, 0)) := ⟨_, rfl⟩
  rw [← hv] at ST
  have HV := Lib.hid hv
  have ST := Lib.hid ST
  clear h k hz hb0 hv
  go_enter Tryz.func3, Tryz.ntmps3
  go_upto_region 1 with (fail)
  rw [← HV.out]
  clear HV
  have k0 := ST.out.k0
  have k1 := ST.out.k1
  go_wp2_with fail
  clear k0 k1
  refine (HFA.out v ST.out.gr).mono ?_
  rintro e w1 ⟨b, rfl, hsa, hb1⟩
  have ST := Lib.hid (ST.out.later hb1)
  have HSA := Lib.hid hsa
  clear hb1 hsa HFA
  cases b
  · clear HSA
    go_wp2_with fail
    refine (awake26 _).mono ?_
    rintro e wz ⟨rfl, hbz⟩
    have HBZ := Lib.hid (ST.out.bel.trans (hbz.mono ST.out.bel.size))
    clear hbz
    go_wp2_with fail
    go_ret
    exact ⟨rfl, HBZ.out⟩
  obtain ⟨hn40, hn60, hth, hte⟩ := HSA.out rfl
  have HTH := Lib.hid (And.intro hth hte)
  clear HSA hth hte
  have k0 := ST.out.k0
  have k1 := ST.out.k1
  go_wp2_with fail
  clear k0 k1
  refine (HWR.out _ ST.out.gr).mono ?_
  rintro e w2 ⟨rfl, hb2⟩
  have ST := Lib.hid (ST.out.later hb2)
  clear hb2 HWR
  by_cases hzz : ¬ z = 0
  · have z1 : (z != 0) = true := by simpa using hzz
    go_wp2_with fail
    refine (awake26 _).mono ?_
    rintro e wz ⟨rfl, hbz⟩
    have HBZ := Lib.hid (ST.out.bel.trans (hbz.mono ST.out.bel.size))
    clear hbz
    go_wp2_with fail
    go_ret
    exact ⟨rfl, HBZ.out⟩
  have hzz : z = 0 := Classical.not_not.1 hzz
  have HRI := Lib.hid (gW_rise (HZ.out.symm.trans hzz))
  have HLB := Lib.hid (gW_labels (HZ.out.symm.trans hzz))
  subst hzz
  clear HZ
  by_cases q1 : 100 < s.size
  · have t1 : decide ((s.size : Int) > 100) = true := decide_eq_true (by omega)
    have t2 : decide (100 < (s.size : Int)) = true := decide_eq_true (by omega)
    go_wp2_with fail
    refine (awake26 _).mono ?_
    rintro e wz ⟨rfl, hbz⟩
    have HBZ := Lib.hid (ST.out.bel.trans (hbz.mono ST.out.bel.size))
    clear hbz
    go_wp2_with fail
    go_ret
    exact ⟨rfl, HBZ.out⟩
  have t1 : decide ((s.size : Int) > 100) = false := decide_eq_false (by omega)
  have t2 : decide (100 < (s.size : Int)) = false := decide_eq_false (by omega)
  by_cases q2 : 100 < t.size
  · have t3 : decide ((t.size : Int) > 100) = true := decide_eq_true (by omega)
    have t4 : decide (100 < (t.size : Int)) = true := decide_eq_true (by omega)
    go_wp2_with fail
    refine (awake26 _).mono ?_
    rintro e wz ⟨rfl, hbz⟩
    have HBZ := Lib.hid (ST.out.bel.trans (hbz.mono ST.out.bel.size))
    clear hbz
    go_wp2_with fail
    go_ret
    exact ⟨rfl, HBZ.out⟩
  have t3 : decide ((t.size : Int) > 100) = false := decide_eq_false (by omega)
  have t4 : decide (100 < (t.size : Int)) = false := decide_eq_false (by omega)
  have HND := Lib.hid (fun (W : World) (q : GrIs W A n A2 n2 X Y) => (gnode_any A A2 n c n2 c2 X Y s W q (by omega) HRI.out.2.2.1 (fun x hx => by have := HTH.out.1 x hx; omega)).mono fun e w' h => Fndn.got h)
  have HED := Lib.hid (fun (W : World) (q : GrIs W A n A2 n2 X Y) => (gedge_any A A2 n c n2 c2 X Y s W q (by omega) HRI.out.2.2.2 (fun x hx => by have := HTH.out.2 x hx; omega)).mono fun e w' h => Fnde.got h)
  have HNA := Lib.hid (fun (W : World) (q : GrIs W A n A2 n2 X Y) => (by have y := nodeat_any A A2 n c n2 c2 X Y s W q (by omega); rw [nAt_rise s HRI.out.2.2.1] at y; exact y : Calls Tryz.prog 10 #[.agg #[.slice A n c, .slice A2 n2 c2], .string s] W fun e w' => e = .returned (.int .i64 (if inB (keys1 X) s = true then ((lessN (keys1 X) s : Nat) : Int) else -1)) ∧ Below W.heap.size W w'))
  have HEA := Lib.hid (fun (W : World) (q : GrIs W A n A2 n2 X Y) => (by have y := edgeat_any A A2 n c n2 c2 X Y s W q (by omega); rw [eAt_rise s HRI.out.2.2.2] at y; exact y : Calls Tryz.prog 11 #[.agg #[.slice A n c, .slice A2 n2 c2], .string s] W fun e w' => e = .returned (.int .i64 (if inB (keys1 Y) s = true then ((lessN (keys1 Y) s : Nat) : Int) else -1)) ∧ Below W.heap.size W w'))
  have HK1 := Lib.hid (fun e : inB (keys1 X) s = true => key_at (X := X) (x := s) HRI.out.2.2.1 e)
  have HK2 := Lib.hid (fun e : inB (keys1 Y) s = true => key_at (X := Y) (x := s) HRI.out.2.2.2 e)
  obtain ⟨K1, hK1⟩ : ∃ K, K = lessN (keys1 X) s := ⟨_, rfl⟩
  obtain ⟨K2, hK2⟩ : ∃ K, K = lessN (keys1 Y) s := ⟨_, rfl⟩
  obtain ⟨m1, hm1⟩ : ∃ m, m = inB (keys1 X) s := ⟨_, rfl⟩
  obtain ⟨m2, hm2⟩ : ∃ m, m = inB (keys1 Y) s := ⟨_, rfl⟩
  unfold GotN at HND
  unfold GotE at HED
  rw [← hm1, ← hK1] at HND HNA HK1
  rw [← hm2, ← hK2] at HED HEA HK2
  clear hK1 hK2 hm1 hm2 q1 q2
  have k0 := ST.out.k0
  have k1 := ST.out.k1
  go_wp2_with fail
  clear k0 k1
  refine (HND.out _ ST.out.gr).mono ?_
  rintro e w3 ⟨i, a1, a3, b1, b3, ss, ps, rfl, hlp, hb3, hx1, hx2⟩
  have ST := Lib.hid (ST.out.later hb3)
  have HLP := Lib.hid hlp
  have HX1 := Lib.hid hx1
  have HX2 := Lib.hid hx2
  clear hlp hb3 hx1 hx2 HND
  have HN0 := Lib.hid (blk_new w3 (.cells #[.string ⟨#[]⟩, .slice none 0 0, .slice none 0 0] 32 (0, 0)))
  have HB0 := Lib.hid ((Below.refl w3.heap.size w3).alloc (Nat.le_refl _) (.cells #[.string ⟨#[]⟩, .slice none 0 0, .slice none 0 0] 32 (0, 0)))
  go_wp2_with (refine wpList_store_rowY rfl 32 (.tmp 7) (.tmp 36) rfl w3.heap.size #[.string i, .slice a1 ss.length a3, .slice b1 ps.length b3] rfl rfl 32 _ HN0.out (by kernel_rfl) rfl (by simp [Value.oneCell']) w3.heap.size w3 HB0.out (Nat.le_refl _) ?_)
  intro w4 hbk hoth hbel _
  have ST := Lib.hid (ST.out.later hbel.out)
  have HNB := Lib.hid hbk.out
  have HLP := Lib.hid (HLP.out.below hbel.out)
  clear hbk hoth hbel HN0 HB0
  generalize w3.heap.size = N at *
  have k0 := ST.out.k0
  have k1 := ST.out.k1
  go_wp2_with fail
  clear k0 k1
  refine (HED.out _ ST.out.gr).mono ?_
  rintro e w5 ⟨j, f, g, c1, c3, d1, d3, tt, qs, rfl, hlp, hb3, hx1, hx2⟩
  have ST := Lib.hid (ST.out.later hb3)
  have HNB := Lib.hid (blk_below HNB.out hb3)
  have HLP := Lib.hid (HLP.out.below hb3)
  have HLQ := Lib.hid hlp
  have HY1 := Lib.hid hx1
  have HY2 := Lib.hid hx2
  clear hlp hb3 hx1 hx2 HED
  have HN0 := Lib.hid (blk_new w5 (.cells #[.string ⟨#[]⟩, .string ⟨#[]⟩, .string ⟨#[]⟩, .slice none 0 0, .slice none 0 0] 36 (0, 0)))
  have HB0 := Lib.hid ((Below.refl w5.heap.size w5).alloc (Nat.le_refl _) (.cells #[.string ⟨#[]⟩, .string ⟨#[]⟩, .string ⟨#[]⟩, .slice none 0 0, .slice none 0 0] 36 (0, 0)))
  go_wp2_with (refine wpList_store_rowY rfl 36 (.tmp 9) (.tmp 42) rfl w5.heap.size #[.string j, .string f, .string g, .slice c1 tt.length c3, .slice d1 qs.length d3] rfl rfl 36 _ HN0.out (by kernel_rfl) rfl (by simp [Value.oneCell']) w5.heap.size w5 HB0.out (Nat.le_refl _) ?_)
  intro w6 hbk hoth hbel _
  have ST := Lib.hid (ST.out.later hbel.out)
  have HNB := Lib.hid (blk_below HNB.out hbel.out)
  have HLP := Lib.hid (HLP.out.below hbel.out)
  have HLQ := Lib.hid (HLQ.out.below hbel.out)
  have HEB := Lib.hid hbk.out
  clear hbk hoth hbel HN0 HB0
  generalize w5.heap.size = E at *
  have HOU := Lib.hid (fun (W : World) (q : GrIs W A n A2 n2 X Y) => (gout_any A A2 n c n2 c2 X Y s W q (by omega) (fun x hx => by have := HTH.out.2 x hx; omega)).mono fun e w' h => Picke.row h)
  have HIN := Lib.hid (fun (W : World) (q : GrIs W A n A2 n2 X Y) => (gin_any A A2 n c n2 c2 X Y s W q (by omega) (fun x hx => by have := HTH.out.2 x hx; omega)).mono fun e w' h => Picke.row h)
  have HLA := Lib.hid (fun (W : World) (q : GrIs W A n A2 n2 X Y) => (glab_any A A2 n c n2 c2 X Y t W q (by omega) (fun x hx => by have := HTH.out.1 x hx; omega) HLB.out).mono fun e w' h => Pickn.row h)
  have HDO := Lib.hid (fun (W : World) (q : GrIs W A n A2 n2 X Y) => (dout_any A A2 n c n2 c2 X Y s W q (by omega)).mono fun e w' h => Doce.row h)
  have HDI := Lib.hid (fun (W : World) (q : GrIs W A n A2 n2 X Y) => (din_any A A2 n c n2 c2 X Y s W q (by omega)).mono fun e w' h => Doce.row h)
  have HDL := Lib.hid (fun (W : World) (q : GrIs W A n A2 n2 X Y) => (dlab_any A A2 n c n2 c2 X Y t W q (by omega) (fun x hx => by have := HTH.out.1 x hx; omega)).mono fun e w' h => Docn.row h)
  have hfe : ∀ p : Ed → Bool, (Y.filter p).length ≤ 1000000 ∧ edSm (Y.filter p) := fun p => ⟨by have := List.length_filter_le p Y; have := HL.out.2; omega, fun x hx => by have := HTH.out.2 x (List.mem_filter.1 hx).1; omega⟩
  have hfn : ∀ p : Nd → Bool, (X.filter p).length ≤ 1000000 ∧ ndSm (X.filter p) := fun p => ⟨by have := List.length_filter_le p X; have := HL.out.1; omega, fun x hx => by have := HTH.out.1 x (List.mem_filter.1 hx).1; omega⟩
  have HFO := Lib.hid (hfe (pOut s))
  have HFI := Lib.hid (hfe (pIn s))
  have HFL := Lib.hid (hfn (pLab t))
  clear hfe hfn HLB HRI
  generalize Y.filter (pOut s) = YO at HOU HDO HFO
  generalize Y.filter (pIn s) = YI at HIN HDI HFI
  generalize X.filter (pLab t) = XL at HLA HDL HFL
  cases m1
  · cases m2
    · rw [if_neg Bool.false_ne_true] at HNA
      rw [if_neg Bool.false_ne_true] at HEA
      obtain ⟨rfl, rfl, rfl⟩ := HX2.out rfl
      obtain ⟨rfl, rfl, rfl, rfl, rfl⟩ := HY2.out rfl
      clear HX1 HX2 HY1 HY2 HK1 HK2
      go_upto_region 5 with (fail)
      have r0 := fun d os => cell_regrown ST.out.k0 d os
      have r1 := fun d os => cell_regrown ST.out.k1 d os
      refine wp_region_quiet_below (by kernel_rfl) (by kernel_rfl) ?_
      repeat (any_goals (first | go_big_quiet_step ((first | (go_at_call 10; with_reducible exact Calls.regrown_of (HNA.out _ (ST.out.gr.below (below_regrown _ _ _)))) | (go_at_call 11; with_reducible exact Calls.regrown_of (HEA.out _ (ST.out.gr.below (below_regrown _ _ _)))))) | quiet_step ((first | (go_at_call 10; with_reducible exact Calls.regrown_of (HNA.out _ (ST.out.gr.below (below_regrown _ _ _)))) | (go_at_call 11; with_reducible exact Calls.regrown_of (HEA.out _ (ST.out.gr.below (below_regrown _ _ _))))))))
      refine wpQuiet_nil ?_
      intro w7 hw
      have hb := below_anyY hw
      clear hw r0 r1
      have ST := Lib.hid (ST.out.later hb)
      have HNB := Lib.hid (blk_below HNB.out hb)
      have HEB := Lib.hid (blk_below HEB.out hb)
      have HLP := Lib.hid (HLP.out.below hb)
      have HLQ := Lib.hid (HLQ.out.below hb)
      clear hb
      go_upto_region 8 with (fail)
      have r0 := fun d os => cell_regrown ST.out.k0 d os
      have r1 := fun d os => cell_regrown ST.out.k1 d os
      have nn0 := fun d os => cell_regrown (show w7.cell? ⟨N, 0, none⟩ = _ from (cell_of_row _ _ 0 _ _ _ HNB.out).trans rfl) d os
      have nn1 := fun d os => cell_regrown (show w7.cell? ⟨N, 1, none⟩ = _ from (cell_of_row _ _ 1 _ _ _ HNB.out).trans rfl) d os
      have nn2 := fun d os => cell_regrown (show w7.cell? ⟨N, 2, none⟩ = _ from (cell_of_row _ _ 2 _ _ _ HNB.out).trans rfl) d os
      have ee0 := fun d os => cell_regrown (show w7.cell? ⟨E, 0, none⟩ = _ from (cell_of_row _ _ 0 _ _ _ HEB.out).trans rfl) d os
      have ee1 := fun d os => cell_regrown (show w7.cell? ⟨E, 1, none⟩ = _ from (cell_of_row _ _ 1 _ _ _ HEB.out).trans rfl) d os
      have ee2 := fun d os => cell_regrown (show w7.cell? ⟨E, 2, none⟩ = _ from (cell_of_row _ _ 2 _ _ _ HEB.out).trans rfl) d os
      have ee3 := fun d os => cell_regrown (show w7.cell? ⟨E, 3, none⟩ = _ from (cell_of_row _ _ 3 _ _ _ HEB.out).trans rfl) d os
      have ee4 := fun d os => cell_regrown (show w7.cell? ⟨E, 4, none⟩ = _ from (cell_of_row _ _ 4 _ _ _ HEB.out).trans rfl) d os
      have HSN := Lib.hid (fun (W : World) (g1 : LP W a1 0 [] b1 0 []) => snode_yes ⟨#[]⟩ a1 none b1 none 0 a3 0 0 b3 0 [] [] W g1 (lp_nil W) (by decide) (by decide))
      have HSE := Lib.hid (fun (W : World) (g1 : LP W c1 0 [] d1 0 []) => sedge_yes ⟨#[]⟩ ⟨#[]⟩ ⟨#[]⟩ c1 none d1 none 0 c3 0 0 d3 0 [] [] W g1 (lp_nil W) (by decide) (by decide))
      refine wp_region_quiet_below (by kernel_rfl) (by kernel_rfl) ?_
      repeat (any_goals (first | go_big_quiet_step ((first | (go_at_call 12; with_reducible exact Calls.regrown_of (HSN.out _ (HLP.out.below (below_regrown _ _ _)))) | (go_at_call 13; with_reducible exact Calls.regrown_of (HSE.out _ (HLQ.out.below (below_regrown _ _ _)))))) | quiet_step ((first | (go_at_call 12; with_reducible exact Calls.regrown_of (HSN.out _ (HLP.out.below (below_regrown _ _ _)))) | (go_at_call 13; with_reducible exact Calls.regrown_of (HSE.out _ (HLQ.out.below (below_regrown _ _ _))))))))
      refine wpQuiet_nil ?_
      intro w8 hw
      have hb := below_anyY hw
      clear hw r0 r1 nn0 nn1 nn2 ee0 ee1 ee2 ee3 ee4 HSN HSE
      have ST := Lib.hid (ST.out.later hb)
      have HNB := Lib.hid (blk_below HNB.out hb)
      have HEB := Lib.hid (blk_below HEB.out hb)
      have HLP := Lib.hid (HLP.out.below hb)
      have HLQ := Lib.hid (HLQ.out.below hb)
      clear hb
      clear HNB HEB HLP HLQ
      go_upto_region 10 with (fail)
      have ST := Lib.hid (ST.out.later (Below.refl _ _).drew)
      refine wp_region_L_drew (S := fun _ W => W.heap[w.heap.size]? = some (.cells #[.slice _ n c, .slice _ n2 c2] 25 (0, 0))) (by kernel_rfl) ST.out.gb (fun hS hC => ?_)
      generalize w8.drew = v0 at *
      refine wpAnyL_take (i := 0) (oi := { dst := some 104, op := .load 25 (.tmp 3), type := _, pos := _, after := _, guard := none }) (v := ?_) rfl (by kernel_rfl) (by kernel_rfl) (by kernel_rfl) (fun _ _ _ h => h) (fun _ _ => Iff.rfl) hC (Or.inl ⟨by rfl, ?_⟩) ST.out.gb (fun hC hS => ?_)
      rotate_left
      · intro W9 hSw; have q0 := (cell_of_row _ _ 0 _ _ _ hSw.choose_spec.2.2).trans rfl; have q1 := (cell_of_row _ _ 1 _ _ _ hSw.choose_spec.2.2).trans rfl; go_simp; try (with_reducible rfl)
      try simp only [Act.put, List.setIfInBounds_toArray, List.set_cons_zero, List.set_cons_succ]
      refine wpAnyL_take (i := 1) (oi := { dst := some 105, op := .move (.tmp 1), type := _, pos := _, after := _, guard := none }) (v := ?_) rfl (by kernel_rfl) (by kernel_rfl) (by kernel_rfl) (fun _ _ _ h => h) (fun _ _ => Iff.rfl) hC (Or.inl ⟨by rfl, ?_⟩) ST.out.gb (fun hC hS => ?_)
      rotate_left
      · intro W9 hSw; skip; go_simp; try (with_reducible rfl)
      try simp only [Act.put, List.setIfInBounds_toArray, List.set_cons_zero, List.set_cons_succ]
      refine wpAnyL_take (i := 3) (oi := { dst := some 107, op := .load 25 (.tmp 3), type := _, pos := _, after := _, guard := none }) (v := ?_) rfl (by kernel_rfl) (by kernel_rfl) (by kernel_rfl) (fun _ _ _ h => h) (fun _ _ => Iff.rfl) hC (Or.inl ⟨by rfl, ?_⟩) ST.out.gb (fun hC hS => ?_)
      rotate_left
      · intro W9 hSw; have q0 := (cell_of_row _ _ 0 _ _ _ hSw.choose_spec.2.2).trans rfl; have q1 := (cell_of_row _ _ 1 _ _ _ hSw.choose_spec.2.2).trans rfl; go_simp; try (with_reducible rfl)
      try simp only [Act.put, List.setIfInBounds_toArray, List.set_cons_zero, List.set_cons_succ]
      refine wpAnyL_take (i := 4) (oi := { dst := some 108, op := .move (.tmp 1), type := _, pos := _, after := _, guard := none }) (v := ?_) rfl (by kernel_rfl) (by kernel_rfl) (by kernel_rfl) (fun _ _ _ h => h) (fun _ _ => Iff.rfl) hC (Or.inl ⟨by rfl, ?_⟩) ST.out.gb (fun hC hS => ?_)
      rotate_left
      · intro W9 hSw; skip; go_simp; try (with_reducible rfl)
      try simp only [Act.put, List.setIfInBounds_toArray, List.set_cons_zero, List.set_cons_succ]
      refine wpAnyL_ready (rs := [2]) (by kernel_rfl) (by simp) hC ?_
      refine AllReadyL.cons (o := { dst := some 106, op := .call { callee := .value (.func 15), args := #[.tmp 104, .tmp 105], argTypes := #[25, 9] }, type := _, pos := _, after := _, guard := none }) rfl (fun K9 hK => ?_) ?_
      · skip
        go_simp
        refine (HOU.out _ ST.out.gr).mono ?_
        rintro e v1 ⟨Ap, cp, Rp, rfl, hr, he, hb⟩
        have ST := Lib.hid (ST.out.later hb)
        have HRp := Lib.hid hr
        have HEp := Lib.hid he
        clear hr he hb
        refine hK _ _ ST.out.gb (fun hC => ?_)
        clear hK K9
        try simp only [Act.put, List.setIfInBounds_toArray, List.set_cons_zero, List.set_cons_succ]
        refine wpAnyL_ready (rs := [5]) (by kernel_rfl) (by simp) hC ?_
        refine AllReadyL.cons (o := { dst := some 109, op := .call { callee := .value (.func 16), args := #[.tmp 107, .tmp 108], argTypes := #[25, 9] }, type := _, pos := _, after := _, guard := none }) rfl (fun K9 hK => ?_) ?_
        · skip
          go_simp
          refine (HDO.out _ ST.out.gr).mono ?_
          rintro e v1 ⟨Aq, cq, Rq, rfl, hr, he, hb⟩
          have ST := Lib.hid (ST.out.later hb)
          have HRq := Lib.hid hr
          have HEq := Lib.hid he
          have HRp := Lib.hid (HRp.out.below hb)
          have HEp := Lib.hid (HEp.out.below hb)
          clear hr he hb
          refine hK _ _ ST.out.gb (fun hC => ?_)
          clear hK K9
          try simp only [Act.put, List.setIfInBounds_toArray, List.set_cons_zero, List.set_cons_succ]
          refine wpAnyL_ready (rs := [6]) (by kernel_rfl) (by simp) hC ?_
          refine AllReadyL.cons (o := { dst := some 110, op := .call { callee := .value (.func 14), args := #[.tmp 106, .tmp 109], argTypes := #[23, 23] }, type := _, pos := _, after := _, guard := none }) rfl (fun K9 hK => ?_) ?_
          · skip
            go_simp
            refine (samese_any Ap Aq YO.length cp cq Rp Rq YO _ HRp.out HEp.out HRq.out HEq.out HFO.out.1 HFO.out.2).mono ?_
            rintro e v1 ⟨rfl, hb⟩
            have ST := Lib.hid (ST.out.later hb)
            clear hb HRp HEp HRq HEq
            refine hK _ _ ST.out.gb (fun hC => ?_)
            clear hK K9
            try simp only [Act.put, List.setIfInBounds_toArray, List.set_cons_zero, List.set_cons_succ]
            refine wpAnyL_take (i := 7) (oi := { dst := some 111, op := .move (.tmp 110), type := _, pos := _, after := _, guard := none }) (v := ?_) rfl (by kernel_rfl) (by kernel_rfl) (by kernel_rfl) (fun _ _ _ h => h) (fun _ _ => Iff.rfl) hC (Or.inl ⟨by rfl, ?_⟩) ST.out.gb (fun hC hS => ?_)
            rotate_left
            · intro W9 hSw; skip; go_simp; try (with_reducible rfl)
            try simp only [Act.put, List.setIfInBounds_toArray, List.set_cons_zero, List.set_cons_succ]
            refine wpAnyL_take (i := 8) (oi := { dst := some 112, op := .load 25 (.tmp 3), type := _, pos := _, after := _, guard := some (7, true) }) (v := ?_) rfl (by kernel_rfl) (by kernel_rfl) (by kernel_rfl) (fun _ _ _ h => h) (fun _ _ => Iff.rfl) hC (Or.inl ⟨by rfl, ?_⟩) ST.out.gb (fun hC hS => ?_)
            rotate_left
            · intro W9 hSw; have q0 := (cell_of_row _ _ 0 _ _ _ hSw.choose_spec.2.2).trans rfl; have q1 := (cell_of_row _ _ 1 _ _ _ hSw.choose_spec.2.2).trans rfl; go_simp; try (with_reducible rfl)
            try simp only [Act.put, List.setIfInBounds_toArray, List.set_cons_zero, List.set_cons_succ]
            refine wpAnyL_take (i := 9) (oi := { dst := some 113, op := .move (.tmp 1), type := _, pos := _, after := _, guard := some (7, true) }) (v := ?_) rfl (by kernel_rfl) (by kernel_rfl) (by kernel_rfl) (fun _ _ _ h => h) (fun _ _ => Iff.rfl) hC (Or.inl ⟨by rfl, ?_⟩) ST.out.gb (fun hC hS => ?_)
            rotate_left
            · intro W9 hSw; skip; go_simp; try (with_reducible rfl)
            try simp only [Act.put, List.setIfInBounds_toArray, List.set_cons_zero, List.set_cons_succ]
            refine wpAnyL_take (i := 11) (oi := { dst := some 115, op := .load 25 (.tmp 3), type := _, pos := _, after := _, guard := some (7, true) }) (v := ?_) rfl (by kernel_rfl) (by kernel_rfl) (by kernel_rfl) (fun _ _ _ h => h) (fun _ _ => Iff.rfl) hC (Or.inl ⟨by rfl, ?_⟩) ST.out.gb (fun hC hS => ?_)
            rotate_left
            · intro W9 hSw; have q0 := (cell_of_row _ _ 0 _ _ _ hSw.choose_spec.2.2).trans rfl; have q1 := (cell_of_row _ _ 1 _ _ _ hSw.choose_spec.2.2).trans rfl; go_simp; try (with_reducible rfl)
            try simp only [Act.put, List.setIfInBounds_toArray, List.set_cons_zero, List.set_cons_succ]
            refine wpAnyL_take (i := 12) (oi := { dst := some 116, op := .move (.tmp 1), type := _, pos := _, after := _, guard := some (7, true) }) (v := ?_) rfl (by kernel_rfl) (by kernel_rfl) (by kernel_rfl) (fun _ _ _ h => h) (fun _ _ => Iff.rfl) hC (Or.inl ⟨by rfl, ?_⟩) ST.out.gb (fun hC hS => ?_)
            rotate_left
            · intro W9 hSw; skip; go_simp; try (with_reducible rfl)
            try simp only [Act.put, List.setIfInBounds_toArray, List.set_cons_zero, List.set_cons_succ]
            refine wpAnyL_ready (rs := [10]) (by kernel_rfl) (by simp) hC ?_
            refine AllReadyL.cons (o := { dst := some 114, op := .call { callee := .value (.func 17), args := #[.tmp 112, .tmp 113], argTypes := #[25, 9] }, type := _, pos := _, after := _, guard := some (7, true) }) rfl (fun K9 hK => ?_) ?_
            · skip
              go_simp
              refine (HIN.out _ ST.out.gr).mono ?_
              rintro e v1 ⟨Ap, cp, Rp, rfl, hr, he, hb⟩
              have ST := Lib.hid (ST.out.later hb)
              have HRp := Lib.hid hr
              have HEp := Lib.hid he
              clear hr he hb
              refine hK _ _ ST.out.gb (fun hC => ?_)
              clear hK K9
              try simp only [Act.put, List.setIfInBounds_toArray, List.set_cons_zero, List.set_cons_succ]
              refine wpAnyL_ready (rs := [13]) (by kernel_rfl) (by simp) hC ?_
              refine AllReadyL.cons (o := { dst := some 117, op := .call { callee := .value (.func 18), args := #[.tmp 115, .tmp 116], argTypes := #[25, 9] }, type := _, pos := _, after := _, guard := some (7, true) }) rfl (fun K9 hK => ?_) ?_
              · skip
                go_simp
                refine (HDI.out _ ST.out.gr).mono ?_
                rintro e v1 ⟨Aq, cq, Rq, rfl, hr, he, hb⟩
                have ST := Lib.hid (ST.out.later hb)
                have HRq := Lib.hid hr
                have HEq := Lib.hid he
                have HRp := Lib.hid (HRp.out.below hb)
                have HEp := Lib.hid (HEp.out.below hb)
                clear hr he hb
                refine hK _ _ ST.out.gb (fun hC => ?_)
                clear hK K9
                try simp only [Act.put, List.setIfInBounds_toArray, List.set_cons_zero, List.set_cons_succ]
                refine wpAnyL_ready (rs := [14]) (by kernel_rfl) (by simp) hC ?_
                refine AllReadyL.cons (o := { dst := some 118, op := .call { callee := .value (.func 14), args := #[.tmp 114, .tmp 117], argTypes := #[23, 23] }, type := _, pos := _, after := _, guard := some (7, true) }) rfl (fun K9 hK => ?_) ?_
                · skip
                  go_simp
                  refine (samese_any Ap Aq YI.length cp cq Rp Rq YI _ HRp.out HEp.out HRq.out HEq.out HFI.out.1 HFI.out.2).mono ?_
                  rintro e v1 ⟨rfl, hb⟩
                  have ST := Lib.hid (ST.out.later hb)
                  clear hb HRp HEp HRq HEq
                  refine hK _ _ ST.out.gb (fun hC => ?_)
                  clear hK K9
                  try simp only [Act.put, List.setIfInBounds_toArray, List.set_cons_zero, List.set_cons_succ]
                  refine wpAnyL_take (i := 15) (oi := { dst := some 119, op := .pick (.tmp 111) (.tmp 118) (.const (.bool false)), type := _, pos := _, after := _, guard := none }) (v := ?_) rfl (by kernel_rfl) (by kernel_rfl) (by kernel_rfl) (fun _ _ _ h => h) (fun _ _ => Iff.rfl) hC (Or.inl ⟨by rfl, ?_⟩) ST.out.gb (fun hC hS => ?_)
                  rotate_left
                  · intro W9 hSw; skip; go_simp; try (with_reducible rfl)
                  try simp only [Act.put, List.setIfInBounds_toArray, List.set_cons_zero, List.set_cons_succ]
                  refine wpAnyL_take (i := 16) (oi := { dst := some 120, op := .move (.tmp 119), type := _, pos := _, after := _, guard := none }) (v := ?_) rfl (by kernel_rfl) (by kernel_rfl) (by kernel_rfl) (fun _ _ _ h => h) (fun _ _ => Iff.rfl) hC (Or.inl ⟨by rfl, ?_⟩) ST.out.gb (fun hC hS => ?_)
                  rotate_left
                  · intro W9 hSw; skip; go_simp; try (with_reducible rfl)
                  try simp only [Act.put, List.setIfInBounds_toArray, List.set_cons_zero, List.set_cons_succ]
                  refine wpAnyL_take (i := 17) (oi := { dst := some 121, op := .load 25 (.tmp 3), type := _, pos := _, after := _, guard := some (16, true) }) (v := ?_) rfl (by kernel_rfl) (by kernel_rfl) (by kernel_rfl) (fun _ _ _ h => h) (fun _ _ => Iff.rfl) hC (Or.inl ⟨by rfl, ?_⟩) ST.out.gb (fun hC hS => ?_)
                  rotate_left
                  · intro W9 hSw; have q0 := (cell_of_row _ _ 0 _ _ _ hSw.choose_spec.2.2).trans rfl; have q1 := (cell_of_row _ _ 1 _ _ _ hSw.choose_spec.2.2).trans rfl; go_simp; try (with_reducible rfl)
                  try simp only [Act.put, List.setIfInBounds_toArray, List.set_cons_zero, List.set_cons_succ]
                  refine wpAnyL_take (i := 18) (oi := { dst := some 122, op := .move (.tmp 2), type := _, pos := _, after := _, guard := some (16, true) }) (v := ?_) rfl (by kernel_rfl) (by kernel_rfl) (by kernel_rfl) (fun _ _ _ h => h) (fun _ _ => Iff.rfl) hC (Or.inl ⟨by rfl, ?_⟩) ST.out.gb (fun hC hS => ?_)
                  rotate_left
                  · intro W9 hSw; skip; go_simp; try (with_reducible rfl)
                  try simp only [Act.put, List.setIfInBounds_toArray, List.set_cons_zero, List.set_cons_succ]
                  refine wpAnyL_take (i := 20) (oi := { dst := some 124, op := .load 25 (.tmp 3), type := _, pos := _, after := _, guard := some (16, true) }) (v := ?_) rfl (by kernel_rfl) (by kernel_rfl) (by kernel_rfl) (fun _ _ _ h => h) (fun _ _ => Iff.rfl) hC (Or.inl ⟨by rfl, ?_⟩) ST.out.gb (fun hC hS => ?_)
                  rotate_left
                  · intro W9 hSw; have q0 := (cell_of_row _ _ 0 _ _ _ hSw.choose_spec.2.2).trans rfl; have q1 := (cell_of_row _ _ 1 _ _ _ hSw.choose_spec.2.2).trans rfl; go_simp; try (with_reducible rfl)
                  try simp only [Act.put, List.setIfInBounds_toArray, List.set_cons_zero, List.set_cons_succ]
                  refine wpAnyL_take (i := 21) (oi := { dst := some 125, op := .move (.tmp 2), type := _, pos := _, after := _, guard := some (16, true) }) (v := ?_) rfl (by kernel_rfl) (by kernel_rfl) (by kernel_rfl) (fun _ _ _ h => h) (fun _ _ => Iff.rfl) hC (Or.inl ⟨by rfl, ?_⟩) ST.out.gb (fun hC hS => ?_)
                  rotate_left
                  · intro W9 hSw; skip; go_simp; try (with_reducible rfl)
                  try simp only [Act.put, List.setIfInBounds_toArray, List.set_cons_zero, List.set_cons_succ]
                  refine wpAnyL_ready (rs := [19]) (by kernel_rfl) (by simp) hC ?_
                  refine AllReadyL.cons (o := { dst := some 123, op := .call { callee := .value (.func 20), args := #[.tmp 121, .tmp 122], argTypes := #[25, 9] }, type := _, pos := _, after := _, guard := some (16, true) }) rfl (fun K9 hK => ?_) ?_
                  · skip
                    go_simp
                    refine (HLA.out _ ST.out.gr).mono ?_
                    rintro e v1 ⟨Ap, cp, Rp, rfl, hr, he, hb⟩
                    have ST := Lib.hid (ST.out.later hb)
                    have HRp := Lib.hid hr
                    have HEp := Lib.hid he
                    clear hr he hb
                    refine hK _ _ ST.out.gb (fun hC => ?_)
                    clear hK K9
                    try simp only [Act.put, List.setIfInBounds_toArray, List.set_cons_zero, List.set_cons_succ]
                    refine wpAnyL_ready (rs := [22]) (by kernel_rfl) (by simp) hC ?_
                    refine AllReadyL.cons (o := { dst := some 126, op := .call { callee := .value (.func 21), args := #[.tmp 124, .tmp 125], argTypes := #[25, 9] }, type := _, pos := _, after := _, guard := some (16, true) }) rfl (fun K9 hK => ?_) ?_
                    · skip
                      go_simp
                      refine (HDL.out _ ST.out.gr).mono ?_
                      rintro e v1 ⟨Aq, cq, Rq, rfl, hr, he, hb⟩
                      have ST := Lib.hid (ST.out.later hb)
                      have HRq := Lib.hid hr
                      have HEq := Lib.hid he
                      have HRp := Lib.hid (HRp.out.below hb)
                      have HEp := Lib.hid (HEp.out.below hb)
                      clear hr he hb
                      refine hK _ _ ST.out.gb (fun hC => ?_)
                      clear hK K9
                      try simp only [Act.put, List.setIfInBounds_toArray, List.set_cons_zero, List.set_cons_succ]
                      refine wpAnyL_ready (rs := [23]) (by kernel_rfl) (by simp) hC ?_
                      refine AllReadyL.cons (o := { dst := some 127, op := .call { callee := .value (.func 19), args := #[.tmp 123, .tmp 126], argTypes := #[22, 22] }, type := _, pos := _, after := _, guard := some (16, true) }) rfl (fun K9 hK => ?_) ?_
                      · skip
                        go_simp
                        refine (samesn_any Ap Aq XL.length cp cq Rp Rq XL _ HRp.out HEp.out HRq.out HEq.out HFL.out.1 HFL.out.2).mono ?_
                        rintro e v1 ⟨rfl, hb⟩
                        have ST := Lib.hid (ST.out.later hb)
                        clear hb HRp HEp HRq HEq
                        refine hK _ _ ST.out.gb (fun hC => ?_)
                        clear hK K9
                        try simp only [Act.put, List.setIfInBounds_toArray, List.set_cons_zero, List.set_cons_succ]
                        refine wpAnyL_take (i := 24) (oi := { dst := some 128, op := .pick (.tmp 120) (.tmp 127) (.const (.bool false)), type := _, pos := _, after := _, guard := none }) (v := ?_) rfl (by kernel_rfl) (by kernel_rfl) (by kernel_rfl) (fun _ _ _ h => h) (fun _ _ => Iff.rfl) hC (Or.inl ⟨by rfl, ?_⟩) ST.out.gb (fun hC hS => ?_)
                        rotate_left
                        · intro W9 hSw; skip; go_simp; try (with_reducible rfl)
                        try simp only [Act.put, List.setIfInBounds_toArray, List.set_cons_zero, List.set_cons_succ]
                        refine wpAnyL_take (i := 25) (oi := { dst := some 129, op := .move (.tmp 128), type := _, pos := _, after := _, guard := none }) (v := ?_) rfl (by kernel_rfl) (by kernel_rfl) (by kernel_rfl) (fun _ _ _ h => h) (fun _ _ => Iff.rfl) hC (Or.inl ⟨by rfl, ?_⟩) ST.out.gb (fun hC hS => ?_)
                        rotate_left
                        · intro W9 hSw; skip; go_simp; try (with_reducible rfl)
                        try simp only [Act.put, List.setIfInBounds_toArray, List.set_cons_zero, List.set_cons_succ]
                        refine wpAnyL_ready (rs := [26]) (by kernel_rfl) (by simp) hC ?_
                        refine AllReadyL.cons (o := { dst := some 130, op := .call { callee := .value (.func 7), args := #[], argTypes := #[] }, type := _, pos := _, after := _, guard := some (25, true) }) rfl (fun K9 hK => ?_) ?_
                        · skip
                          go_simp
                          refine (awake26 _).mono ?_
                          rintro e v1 ⟨rfl, hb⟩
                          have ST := Lib.hid (ST.out.later hb)
                          clear hb
                          refine hK _ _ ST.out.gb (fun hC => ?_)
                          clear hK K9
                          try simp only [Act.put, List.setIfInBounds_toArray, List.set_cons_zero, List.set_cons_succ]
                          refine wpAnyL_take (i := 27) (oi := { dst := some 131, op := .pick (.tmp 129) (.tmp 130) (.const (.bool false)), type := _, pos := _, after := _, guard := none }) (v := ?_) rfl (by kernel_rfl) (by kernel_rfl) (by kernel_rfl) (fun _ _ _ h => h) (fun _ _ => Iff.rfl) hC (Or.inl ⟨by rfl, ?_⟩) ST.out.gb (fun hC hS => ?_)
                          rotate_left
                          · intro W9 hSw; skip; go_simp; try (with_reducible rfl)
                          try simp only [Act.put, List.setIfInBounds_toArray, List.set_cons_zero, List.set_cons_succ]
                          refine wpAnyL_take (i := 28) (oi := { dst := some 6, op := .assign (.tmp 131), type := _, pos := _, after := _, guard := none }) (v := ?_) rfl (by kernel_rfl) (by kernel_rfl) (by kernel_rfl) (fun _ _ _ h => h) (fun _ _ => Iff.rfl) hC (Or.inl ⟨by rfl, ?_⟩) ST.out.gb (fun hC hS => ?_)
                          rotate_left
                          · intro W9 hSw; skip; go_simp; try (with_reducible rfl)
                          try simp only [Act.put, List.setIfInBounds_toArray, List.set_cons_zero, List.set_cons_succ]
                          refine wpAnyL_done (by kernel_rfl) ?_ _
                          clear hS hC
                          go_wp2_with fail
                          go_ret
                          exact ⟨rfl, ST.out.bel⟩
                        exact AllReadyL.nil
                      exact AllReadyL.nil
                    exact AllReadyL.nil
                  exact AllReadyL.nil
                exact AllReadyL.nil
              exact AllReadyL.nil
            exact AllReadyL.nil
          exact AllReadyL.nil
        exact AllReadyL.nil
      exact AllReadyL.nil
    · rw [if_neg Bool.false_ne_true] at HNA
      rw [if_pos rfl] at HEA
      obtain ⟨rfl, rfl, rfl⟩ := HX2.out rfl
      obtain ⟨hk2, _⟩ := HK2.out rfl
      have hkn2 : K2 < n2 := by rw [HL.out.2]; exact hk2
      have hyk := HY1.out rfl
      have hr0 : (0 : Int) ≤ (K2 : Int) := by omega
      have hr1 : (K2 : Int) < (n2 : Int) := by omega
      have hd2 : decide ((K2 : Int) ≥ 0) = true := decide_eq_true (by omega)
      have hd2' : decide ((0 : Int) ≤ (K2 : Int)) = true := decide_eq_true (by omega)
      have HYK := Lib.hid hyk
      have hbm2 := HTH.out.2 _ (List.mem_of_getElem? hyk)
      dsimp only at hbm2
      clear hyk
      clear HX1 HX2 HY1 HY2 HK1 HK2
      go_upto_region 5 with (fail)
      have r0 := fun d os => cell_regrown ST.out.k0 d os
      have r1 := fun d os => cell_regrown ST.out.k1 d os
      refine wp_region_quiet_below (by kernel_rfl) (by kernel_rfl) ?_
      repeat (any_goals (first | go_big_quiet_step ((first | (go_at_call 10; with_reducible exact Calls.regrown_of (HNA.out _ (ST.out.gr.below (below_regrown _ _ _)))) | (go_at_call 11; with_reducible exact Calls.regrown_of (HEA.out _ (ST.out.gr.below (below_regrown _ _ _)))))) | quiet_step ((first | (go_at_call 10; with_reducible exact Calls.regrown_of (HNA.out _ (ST.out.gr.below (below_regrown _ _ _)))) | (go_at_call 11; with_reducible exact Calls.regrown_of (HEA.out _ (ST.out.gr.below (below_regrown _ _ _))))))))
      refine wpQuiet_nil ?_
      intro w7 hw
      have hb := below_anyY hw
      clear hw r0 r1
      have ST := Lib.hid (ST.out.later hb)
      have HNB := Lib.hid (blk_below HNB.out hb)
      have HEB := Lib.hid (blk_below HEB.out hb)
      have HLP := Lib.hid (HLP.out.below hb)
      have HLQ := Lib.hid (HLQ.out.below hb)
      clear hb
      go_upto_region 8 with (fail)
      have r0 := fun d os => cell_regrown ST.out.k0 d os
      have r1 := fun d os => cell_regrown ST.out.k1 d os
      have nn0 := fun d os => cell_regrown (show w7.cell? ⟨N, 0, none⟩ = _ from (cell_of_row _ _ 0 _ _ _ HNB.out).trans rfl) d os
      have nn1 := fun d os => cell_regrown (show w7.cell? ⟨N, 1, none⟩ = _ from (cell_of_row _ _ 1 _ _ _ HNB.out).trans rfl) d os
      have nn2 := fun d os => cell_regrown (show w7.cell? ⟨N, 2, none⟩ = _ from (cell_of_row _ _ 2 _ _ _ HNB.out).trans rfl) d os
      have ee0 := fun d os => cell_regrown (show w7.cell? ⟨E, 0, none⟩ = _ from (cell_of_row _ _ 0 _ _ _ HEB.out).trans rfl) d os
      have ee1 := fun d os => cell_regrown (show w7.cell? ⟨E, 1, none⟩ = _ from (cell_of_row _ _ 1 _ _ _ HEB.out).trans rfl) d os
      have ee2 := fun d os => cell_regrown (show w7.cell? ⟨E, 2, none⟩ = _ from (cell_of_row _ _ 2 _ _ _ HEB.out).trans rfl) d os
      have ee3 := fun d os => cell_regrown (show w7.cell? ⟨E, 3, none⟩ = _ from (cell_of_row _ _ 3 _ _ _ HEB.out).trans rfl) d os
      have ee4 := fun d os => cell_regrown (show w7.cell? ⟨E, 4, none⟩ = _ from (cell_of_row _ _ 4 _ _ _ HEB.out).trans rfl) d os
      have HSN := Lib.hid (fun (W : World) (g1 : LP W a1 0 [] b1 0 []) => snode_yes ⟨#[]⟩ a1 none b1 none 0 a3 0 0 b3 0 [] [] W g1 (lp_nil W) (by decide) (by decide))
      obtain ⟨b2', o2, L2, u2, z2, M2, rfl, v0, v1, v2, v3, v4, hp8⟩ := ST.out.gr.edge hkn2 HYK.out
      dsimp only at v0 v1 v2 v3 v4 hp8
      have HP8 := Lib.hid hp8
      have s0 := fun d os => cell_regrown v0 d os
      have s1 := fun d os => cell_regrown v1 d os
      have s2 := fun d os => cell_regrown v2 d os
      have s3 := fun d os => cell_regrown v3 d os
      have s4 := fun d os => cell_regrown v4 d os
      clear v0 v1 v2 v3 v4 hp8
      have HSE := Lib.hid (fun (W : World) (g1 : LP W c1 tt.length tt d1 qs.length qs) (g2 : LP W L2 tt.length tt M2 qs.length qs) => sedge_yes j f g c1 L2 d1 M2 tt.length c3 u2 qs.length d3 z2 tt qs W g1 g2 (by omega) (by omega))
      refine wp_region_quiet_below (by kernel_rfl) (by kernel_rfl) ?_
      repeat (any_goals (first | go_big_quiet_step ((first | (go_at_call 12; with_reducible exact Calls.regrown_of (HSN.out _ (HLP.out.below (below_regrown _ _ _)))) | (go_at_call 13; with_reducible exact Calls.regrown_of (HSE.out _ (HLQ.out.below (below_regrown _ _ _)) (HP8.out.below (below_regrown _ _ _)))))) | quiet_step ((first | (go_at_call 12; with_reducible exact Calls.regrown_of (HSN.out _ (HLP.out.below (below_regrown _ _ _)))) | (go_at_call 13; with_reducible exact Calls.regrown_of (HSE.out _ (HLQ.out.below (below_regrown _ _ _)) (HP8.out.below (below_regrown _ _ _))))))))
      refine wpQuiet_nil ?_
      intro w8 hw
      have hb := below_anyY hw
      clear hw r0 r1 nn0 nn1 nn2 ee0 ee1 ee2 ee3 ee4 s0 s1 s2 s3 s4 HSN HSE
      have ST := Lib.hid (ST.out.later hb)
      have HNB := Lib.hid (blk_below HNB.out hb)
      have HEB := Lib.hid (blk_below HEB.out hb)
      have HLP := Lib.hid (HLP.out.below hb)
      have HLQ := Lib.hid (HLQ.out.below hb)
      clear hb
      clear HNB HEB HLP HLQ
      go_upto_region 10 with (fail)
      have ST := Lib.hid (ST.out.later (Below.refl _ _).drew)
      refine wp_region_L_drew (S := fun _ W => W.heap[w.heap.size]? = some (.cells #[.slice _ n c, .slice _ n2 c2] 25 (0, 0))) (by kernel_rfl) ST.out.gb (fun hS hC => ?_)
      generalize w8.drew = v0 at *
      refine wpAnyL_take (i := 0) (oi := { dst := some 104, op := .load 25 (.tmp 3), type := _, pos := _, after := _, guard := none }) (v := ?_) rfl (by kernel_rfl) (by kernel_rfl) (by kernel_rfl) (fun _ _ _ h => h) (fun _ _ => Iff.rfl) hC (Or.inl ⟨by rfl, ?_⟩) ST.out.gb (fun hC hS => ?_)
      rotate_left
      · intro W9 hSw; have q0 := (cell_of_row _ _ 0 _ _ _ hSw.choose_spec.2.2).trans rfl; have q1 := (cell_of_row _ _ 1 _ _ _ hSw.choose_spec.2.2).trans rfl; go_simp; try (with_reducible rfl)
      try simp only [Act.put, List.setIfInBounds_toArray, List.set_cons_zero, List.set_cons_succ]
      refine wpAnyL_take (i := 1) (oi := { dst := some 105, op := .move (.tmp 1), type := _, pos := _, after := _, guard := none }) (v := ?_) rfl (by kernel_rfl) (by kernel_rfl) (by kernel_rfl) (fun _ _ _ h => h) (fun _ _ => Iff.rfl) hC (Or.inl ⟨by rfl, ?_⟩) ST.out.gb (fun hC hS => ?_)
      rotate_left
      · intro W9 hSw; skip; go_simp; try (with_reducible rfl)
      try simp only [Act.put, List.setIfInBounds_toArray, List.set_cons_zero, List.set_cons_succ]
      refine wpAnyL_take (i := 3) (oi := { dst := some 107, op := .load 25 (.tmp 3), type := _, pos := _, after := _, guard := none }) (v := ?_) rfl (by kernel_rfl) (by kernel_rfl) (by kernel_rfl) (fun _ _ _ h => h) (fun _ _ => Iff.rfl) hC (Or.inl ⟨by rfl, ?_⟩) ST.out.gb (fun hC hS => ?_)
      rotate_left
      · intro W9 hSw; have q0 := (cell_of_row _ _ 0 _ _ _ hSw.choose_spec.2.2).trans rfl; have q1 := (cell_of_row _ _ 1 _ _ _ hSw.choose_spec.2.2).trans rfl; go_simp; try (with_reducible rfl)
      try simp only [Act.put, List.setIfInBounds_toArray, List.set_cons_zero, List.set_cons_succ]
      refine wpAnyL_take (i := 4) (oi := { dst := some 108, op := .move (.tmp 1), type := _, pos := _, after := _, guard := none }) (v := ?_) rfl (by kernel_rfl) (by kernel_rfl) (by kernel_rfl) (fun _ _ _ h => h) (fun _ _ => Iff.rfl) hC (Or.inl ⟨by rfl, ?_⟩) ST.out.gb (fun hC hS => ?_)
      rotate_left
      · intro W9 hSw; skip; go_simp; try (with_reducible rfl)
      try simp only [Act.put, List.setIfInBounds_toArray, List.set_cons_zero, List.set_cons_succ]
      refine wpAnyL_ready (rs := [2]) (by kernel_rfl) (by simp) hC ?_
      refine AllReadyL.cons (o := { dst := some 106, op := .call { callee := .value (.func 15), args := #[.tmp 104, .tmp 105], argTypes := #[25, 9] }, type := _, pos := _, after := _, guard := none }) rfl (fun K9 hK => ?_) ?_
      · skip
        go_simp
        refine (HOU.out _ ST.out.gr).mono ?_
        rintro e v1 ⟨Ap, cp, Rp, rfl, hr, he, hb⟩
        have ST := Lib.hid (ST.out.later hb)
        have HRp := Lib.hid hr
        have HEp := Lib.hid he
        clear hr he hb
        refine hK _ _ ST.out.gb (fun hC => ?_)
        clear hK K9
        try simp only [Act.put, List.setIfInBounds_toArray, List.set_cons_zero, List.set_cons_succ]
        refine wpAnyL_ready (rs := [5]) (by kernel_rfl) (by simp) hC ?_
        refine AllReadyL.cons (o := { dst := some 109, op := .call { callee := .value (.func 16), args := #[.tmp 107, .tmp 108], argTypes := #[25, 9] }, type := _, pos := _, after := _, guard := none }) rfl (fun K9 hK => ?_) ?_
        · skip
          go_simp
          refine (HDO.out _ ST.out.gr).mono ?_
          rintro e v1 ⟨Aq, cq, Rq, rfl, hr, he, hb⟩
          have ST := Lib.hid (ST.out.later hb)
          have HRq := Lib.hid hr
          have HEq := Lib.hid he
          have HRp := Lib.hid (HRp.out.below hb)
          have HEp := Lib.hid (HEp.out.below hb)
          clear hr he hb
          refine hK _ _ ST.out.gb (fun hC => ?_)
          clear hK K9
          try simp only [Act.put, List.setIfInBounds_toArray, List.set_cons_zero, List.set_cons_succ]
          refine wpAnyL_ready (rs := [6]) (by kernel_rfl) (by simp) hC ?_
          refine AllReadyL.cons (o := { dst := some 110, op := .call { callee := .value (.func 14), args := #[.tmp 106, .tmp 109], argTypes := #[23, 23] }, type := _, pos := _, after := _, guard := none }) rfl (fun K9 hK => ?_) ?_
          · skip
            go_simp
            refine (samese_any Ap Aq YO.length cp cq Rp Rq YO _ HRp.out HEp.out HRq.out HEq.out HFO.out.1 HFO.out.2).mono ?_
            rintro e v1 ⟨rfl, hb⟩
            have ST := Lib.hid (ST.out.later hb)
            clear hb HRp HEp HRq HEq
            refine hK _ _ ST.out.gb (fun hC => ?_)
            clear hK K9
            try simp only [Act.put, List.setIfInBounds_toArray, List.set_cons_zero, List.set_cons_succ]
            refine wpAnyL_take (i := 7) (oi := { dst := some 111, op := .move (.tmp 110), type := _, pos := _, after := _, guard := none }) (v := ?_) rfl (by kernel_rfl) (by kernel_rfl) (by kernel_rfl) (fun _ _ _ h => h) (fun _ _ => Iff.rfl) hC (Or.inl ⟨by rfl, ?_⟩) ST.out.gb (fun hC hS => ?_)
            rotate_left
            · intro W9 hSw; skip; go_simp; try (with_reducible rfl)
            try simp only [Act.put, List.setIfInBounds_toArray, List.set_cons_zero, List.set_cons_succ]
            refine wpAnyL_take (i := 8) (oi := { dst := some 112, op := .load 25 (.tmp 3), type := _, pos := _, after := _, guard := some (7, true) }) (v := ?_) rfl (by kernel_rfl) (by kernel_rfl) (by kernel_rfl) (fun _ _ _ h => h) (fun _ _ => Iff.rfl) hC (Or.inl ⟨by rfl, ?_⟩) ST.out.gb (fun hC hS => ?_)
            rotate_left
            · intro W9 hSw; have q0 := (cell_of_row _ _ 0 _ _ _ hSw.choose_spec.2.2).trans rfl; have q1 := (cell_of_row _ _ 1 _ _ _ hSw.choose_spec.2.2).trans rfl; go_simp; try (with_reducible rfl)
            try simp only [Act.put, List.setIfInBounds_toArray, List.set_cons_zero, List.set_cons_succ]
            refine wpAnyL_take (i := 9) (oi := { dst := some 113, op := .move (.tmp 1), type := _, pos := _, after := _, guard := some (7, true) }) (v := ?_) rfl (by kernel_rfl) (by kernel_rfl) (by kernel_rfl) (fun _ _ _ h => h) (fun _ _ => Iff.rfl) hC (Or.inl ⟨by rfl, ?_⟩) ST.out.gb (fun hC hS => ?_)
            rotate_left
            · intro W9 hSw; skip; go_simp; try (with_reducible rfl)
            try simp only [Act.put, List.setIfInBounds_toArray, List.set_cons_zero, List.set_cons_succ]
            refine wpAnyL_take (i := 11) (oi := { dst := some 115, op := .load 25 (.tmp 3), type := _, pos := _, after := _, guard := some (7, true) }) (v := ?_) rfl (by kernel_rfl) (by kernel_rfl) (by kernel_rfl) (fun _ _ _ h => h) (fun _ _ => Iff.rfl) hC (Or.inl ⟨by rfl, ?_⟩) ST.out.gb (fun hC hS => ?_)
            rotate_left
            · intro W9 hSw; have q0 := (cell_of_row _ _ 0 _ _ _ hSw.choose_spec.2.2).trans rfl; have q1 := (cell_of_row _ _ 1 _ _ _ hSw.choose_spec.2.2).trans rfl; go_simp; try (with_reducible rfl)
            try simp only [Act.put, List.setIfInBounds_toArray, List.set_cons_zero, List.set_cons_succ]
            refine wpAnyL_take (i := 12) (oi := { dst := some 116, op := .move (.tmp 1), type := _, pos := _, after := _, guard := some (7, true) }) (v := ?_) rfl (by kernel_rfl) (by kernel_rfl) (by kernel_rfl) (fun _ _ _ h => h) (fun _ _ => Iff.rfl) hC (Or.inl ⟨by rfl, ?_⟩) ST.out.gb (fun hC hS => ?_)
            rotate_left
            · intro W9 hSw; skip; go_simp; try (with_reducible rfl)
            try simp only [Act.put, List.setIfInBounds_toArray, List.set_cons_zero, List.set_cons_succ]
            refine wpAnyL_ready (rs := [10]) (by kernel_rfl) (by simp) hC ?_
            refine AllReadyL.cons (o := { dst := some 114, op := .call { callee := .value (.func 17), args := #[.tmp 112, .tmp 113], argTypes := #[25, 9] }, type := _, pos := _, after := _, guard := some (7, true) }) rfl (fun K9 hK => ?_) ?_
            · skip
              go_simp
              refine (HIN.out _ ST.out.gr).mono ?_
              rintro e v1 ⟨Ap, cp, Rp, rfl, hr, he, hb⟩
              have ST := Lib.hid (ST.out.later hb)
              have HRp := Lib.hid hr
              have HEp := Lib.hid he
              clear hr he hb
              refine hK _ _ ST.out.gb (fun hC => ?_)
              clear hK K9
              try simp only [Act.put, List.setIfInBounds_toArray, List.set_cons_zero, List.set_cons_succ]
              refine wpAnyL_ready (rs := [13]) (by kernel_rfl) (by simp) hC ?_
              refine AllReadyL.cons (o := { dst := some 117, op := .call { callee := .value (.func 18), args := #[.tmp 115, .tmp 116], argTypes := #[25, 9] }, type := _, pos := _, after := _, guard := some (7, true) }) rfl (fun K9 hK => ?_) ?_
              · skip
                go_simp
                refine (HDI.out _ ST.out.gr).mono ?_
                rintro e v1 ⟨Aq, cq, Rq, rfl, hr, he, hb⟩
                have ST := Lib.hid (ST.out.later hb)
                have HRq := Lib.hid hr
                have HEq := Lib.hid he
                have HRp := Lib.hid (HRp.out.below hb)
                have HEp := Lib.hid (HEp.out.below hb)
                clear hr he hb
                refine hK _ _ ST.out.gb (fun hC => ?_)
                clear hK K9
                try simp only [Act.put, List.setIfInBounds_toArray, List.set_cons_zero, List.set_cons_succ]
                refine wpAnyL_ready (rs := [14]) (by kernel_rfl) (by simp) hC ?_
                refine AllReadyL.cons (o := { dst := some 118, op := .call { callee := .value (.func 14), args := #[.tmp 114, .tmp 117], argTypes := #[23, 23] }, type := _, pos := _, after := _, guard := some (7, true) }) rfl (fun K9 hK => ?_) ?_
                · skip
                  go_simp
                  refine (samese_any Ap Aq YI.length cp cq Rp Rq YI _ HRp.out HEp.out HRq.out HEq.out HFI.out.1 HFI.out.2).mono ?_
                  rintro e v1 ⟨rfl, hb⟩
                  have ST := Lib.hid (ST.out.later hb)
                  clear hb HRp HEp HRq HEq
                  refine hK _ _ ST.out.gb (fun hC => ?_)
                  clear hK K9
                  try simp only [Act.put, List.setIfInBounds_toArray, List.set_cons_zero, List.set_cons_succ]
                  refine wpAnyL_take (i := 15) (oi := { dst := some 119, op := .pick (.tmp 111) (.tmp 118) (.const (.bool false)), type := _, pos := _, after := _, guard := none }) (v := ?_) rfl (by kernel_rfl) (by kernel_rfl) (by kernel_rfl) (fun _ _ _ h => h) (fun _ _ => Iff.rfl) hC (Or.inl ⟨by rfl, ?_⟩) ST.out.gb (fun hC hS => ?_)
                  rotate_left
                  · intro W9 hSw; skip; go_simp; try (with_reducible rfl)
                  try simp only [Act.put, List.setIfInBounds_toArray, List.set_cons_zero, List.set_cons_succ]
                  refine wpAnyL_take (i := 16) (oi := { dst := some 120, op := .move (.tmp 119), type := _, pos := _, after := _, guard := none }) (v := ?_) rfl (by kernel_rfl) (by kernel_rfl) (by kernel_rfl) (fun _ _ _ h => h) (fun _ _ => Iff.rfl) hC (Or.inl ⟨by rfl, ?_⟩) ST.out.gb (fun hC hS => ?_)
                  rotate_left
                  · intro W9 hSw; skip; go_simp; try (with_reducible rfl)
                  try simp only [Act.put, List.setIfInBounds_toArray, List.set_cons_zero, List.set_cons_succ]
                  refine wpAnyL_take (i := 17) (oi := { dst := some 121, op := .load 25 (.tmp 3), type := _, pos := _, after := _, guard := some (16, true) }) (v := ?_) rfl (by kernel_rfl) (by kernel_rfl) (by kernel_rfl) (fun _ _ _ h => h) (fun _ _ => Iff.rfl) hC (Or.inl ⟨by rfl, ?_⟩) ST.out.gb (fun hC hS => ?_)
                  rotate_left
                  · intro W9 hSw; have q0 := (cell_of_row _ _ 0 _ _ _ hSw.choose_spec.2.2).trans rfl; have q1 := (cell_of_row _ _ 1 _ _ _ hSw.choose_spec.2.2).trans rfl; go_simp; try (with_reducible rfl)
                  try simp only [Act.put, List.setIfInBounds_toArray, List.set_cons_zero, List.set_cons_succ]
                  refine wpAnyL_take (i := 18) (oi := { dst := some 122, op := .move (.tmp 2), type := _, pos := _, after := _, guard := some (16, true) }) (v := ?_) rfl (by kernel_rfl) (by kernel_rfl) (by kernel_rfl) (fun _ _ _ h => h) (fun _ _ => Iff.rfl) hC (Or.inl ⟨by rfl, ?_⟩) ST.out.gb (fun hC hS => ?_)
                  rotate_left
                  · intro W9 hSw; skip; go_simp; try (with_reducible rfl)
                  try simp only [Act.put, List.setIfInBounds_toArray, List.set_cons_zero, List.set_cons_succ]
                  refine wpAnyL_take (i := 20) (oi := { dst := some 124, op := .load 25 (.tmp 3), type := _, pos := _, after := _, guard := some (16, true) }) (v := ?_) rfl (by kernel_rfl) (by kernel_rfl) (by kernel_rfl) (fun _ _ _ h => h) (fun _ _ => Iff.rfl) hC (Or.inl ⟨by rfl, ?_⟩) ST.out.gb (fun hC hS => ?_)
                  rotate_left
                  · intro W9 hSw; have q0 := (cell_of_row _ _ 0 _ _ _ hSw.choose_spec.2.2).trans rfl; have q1 := (cell_of_row _ _ 1 _ _ _ hSw.choose_spec.2.2).trans rfl; go_simp; try (with_reducible rfl)
                  try simp only [Act.put, List.setIfInBounds_toArray, List.set_cons_zero, List.set_cons_succ]
                  refine wpAnyL_take (i := 21) (oi := { dst := some 125, op := .move (.tmp 2), type := _, pos := _, after := _, guard := some (16, true) }) (v := ?_) rfl (by kernel_rfl) (by kernel_rfl) (by kernel_rfl) (fun _ _ _ h => h) (fun _ _ => Iff.rfl) hC (Or.inl ⟨by rfl, ?_⟩) ST.out.gb (fun hC hS => ?_)
                  rotate_left
                  · intro W9 hSw; skip; go_simp; try (with_reducible rfl)
                  try simp only [Act.put, List.setIfInBounds_toArray, List.set_cons_zero, List.set_cons_succ]
                  refine wpAnyL_ready (rs := [19]) (by kernel_rfl) (by simp) hC ?_
                  refine AllReadyL.cons (o := { dst := some 123, op := .call { callee := .value (.func 20), args := #[.tmp 121, .tmp 122], argTypes := #[25, 9] }, type := _, pos := _, after := _, guard := some (16, true) }) rfl (fun K9 hK => ?_) ?_
                  · skip
                    go_simp
                    refine (HLA.out _ ST.out.gr).mono ?_
                    rintro e v1 ⟨Ap, cp, Rp, rfl, hr, he, hb⟩
                    have ST := Lib.hid (ST.out.later hb)
                    have HRp := Lib.hid hr
                    have HEp := Lib.hid he
                    clear hr he hb
                    refine hK _ _ ST.out.gb (fun hC => ?_)
                    clear hK K9
                    try simp only [Act.put, List.setIfInBounds_toArray, List.set_cons_zero, List.set_cons_succ]
                    refine wpAnyL_ready (rs := [22]) (by kernel_rfl) (by simp) hC ?_
                    refine AllReadyL.cons (o := { dst := some 126, op := .call { callee := .value (.func 21), args := #[.tmp 124, .tmp 125], argTypes := #[25, 9] }, type := _, pos := _, after := _, guard := some (16, true) }) rfl (fun K9 hK => ?_) ?_
                    · skip
                      go_simp
                      refine (HDL.out _ ST.out.gr).mono ?_
                      rintro e v1 ⟨Aq, cq, Rq, rfl, hr, he, hb⟩
                      have ST := Lib.hid (ST.out.later hb)
                      have HRq := Lib.hid hr
                      have HEq := Lib.hid he
                      have HRp := Lib.hid (HRp.out.below hb)
                      have HEp := Lib.hid (HEp.out.below hb)
                      clear hr he hb
                      refine hK _ _ ST.out.gb (fun hC => ?_)
                      clear hK K9
                      try simp only [Act.put, List.setIfInBounds_toArray, List.set_cons_zero, List.set_cons_succ]
                      refine wpAnyL_ready (rs := [23]) (by kernel_rfl) (by simp) hC ?_
                      refine AllReadyL.cons (o := { dst := some 127, op := .call { callee := .value (.func 19), args := #[.tmp 123, .tmp 126], argTypes := #[22, 22] }, type := _, pos := _, after := _, guard := some (16, true) }) rfl (fun K9 hK => ?_) ?_
                      · skip
                        go_simp
                        refine (samesn_any Ap Aq XL.length cp cq Rp Rq XL _ HRp.out HEp.out HRq.out HEq.out HFL.out.1 HFL.out.2).mono ?_
                        rintro e v1 ⟨rfl, hb⟩
                        have ST := Lib.hid (ST.out.later hb)
                        clear hb HRp HEp HRq HEq
                        refine hK _ _ ST.out.gb (fun hC => ?_)
                        clear hK K9
                        try simp only [Act.put, List.setIfInBounds_toArray, List.set_cons_zero, List.set_cons_succ]
                        refine wpAnyL_take (i := 24) (oi := { dst := some 128, op := .pick (.tmp 120) (.tmp 127) (.const (.bool false)), type := _, pos := _, after := _, guard := none }) (v := ?_) rfl (by kernel_rfl) (by kernel_rfl) (by kernel_rfl) (fun _ _ _ h => h) (fun _ _ => Iff.rfl) hC (Or.inl ⟨by rfl, ?_⟩) ST.out.gb (fun hC hS => ?_)
                        rotate_left
                        · intro W9 hSw; skip; go_simp; try (with_reducible rfl)
                        try simp only [Act.put, List.setIfInBounds_toArray, List.set_cons_zero, List.set_cons_succ]
                        refine wpAnyL_take (i := 25) (oi := { dst := some 129, op := .move (.tmp 128), type := _, pos := _, after := _, guard := none }) (v := ?_) rfl (by kernel_rfl) (by kernel_rfl) (by kernel_rfl) (fun _ _ _ h => h) (fun _ _ => Iff.rfl) hC (Or.inl ⟨by rfl, ?_⟩) ST.out.gb (fun hC hS => ?_)
                        rotate_left
                        · intro W9 hSw; skip; go_simp; try (with_reducible rfl)
                        try simp only [Act.put, List.setIfInBounds_toArray, List.set_cons_zero, List.set_cons_succ]
                        refine wpAnyL_ready (rs := [26]) (by kernel_rfl) (by simp) hC ?_
                        refine AllReadyL.cons (o := { dst := some 130, op := .call { callee := .value (.func 7), args := #[], argTypes := #[] }, type := _, pos := _, after := _, guard := some (25, true) }) rfl (fun K9 hK => ?_) ?_
                        · skip
                          go_simp
                          refine (awake26 _).mono ?_
                          rintro e v1 ⟨rfl, hb⟩
                          have ST := Lib.hid (ST.out.later hb)
                          clear hb
                          refine hK _ _ ST.out.gb (fun hC => ?_)
                          clear hK K9
                          try simp only [Act.put, List.setIfInBounds_toArray, List.set_cons_zero, List.set_cons_succ]
                          refine wpAnyL_take (i := 27) (oi := { dst := some 131, op := .pick (.tmp 129) (.tmp 130) (.const (.bool false)), type := _, pos := _, after := _, guard := none }) (v := ?_) rfl (by kernel_rfl) (by kernel_rfl) (by kernel_rfl) (fun _ _ _ h => h) (fun _ _ => Iff.rfl) hC (Or.inl ⟨by rfl, ?_⟩) ST.out.gb (fun hC hS => ?_)
                          rotate_left
                          · intro W9 hSw; skip; go_simp; try (with_reducible rfl)
                          try simp only [Act.put, List.setIfInBounds_toArray, List.set_cons_zero, List.set_cons_succ]
                          refine wpAnyL_take (i := 28) (oi := { dst := some 6, op := .assign (.tmp 131), type := _, pos := _, after := _, guard := none }) (v := ?_) rfl (by kernel_rfl) (by kernel_rfl) (by kernel_rfl) (fun _ _ _ h => h) (fun _ _ => Iff.rfl) hC (Or.inl ⟨by rfl, ?_⟩) ST.out.gb (fun hC hS => ?_)
                          rotate_left
                          · intro W9 hSw; skip; go_simp; try (with_reducible rfl)
                          try simp only [Act.put, List.setIfInBounds_toArray, List.set_cons_zero, List.set_cons_succ]
                          refine wpAnyL_done (by kernel_rfl) ?_ _
                          clear hS hC
                          go_wp2_with fail
                          go_ret
                          exact ⟨rfl, ST.out.bel⟩
                        exact AllReadyL.nil
                      exact AllReadyL.nil
                    exact AllReadyL.nil
                  exact AllReadyL.nil
                exact AllReadyL.nil
              exact AllReadyL.nil
            exact AllReadyL.nil
          exact AllReadyL.nil
        exact AllReadyL.nil
      exact AllReadyL.nil
  · cases m2
    · rw [if_pos rfl] at HNA
      rw [if_neg Bool.false_ne_true] at HEA
      obtain ⟨hk1, _⟩ := HK1.out rfl
      have hkn1 : K1 < n := by rw [HL.out.1]; exact hk1
      have hxk := HX1.out rfl
      have hp0 : (0 : Int) ≤ (K1 : Int) := by omega
      have hp1 : (K1 : Int) < (n : Int) := by omega
      have hd1 : decide ((K1 : Int) ≥ 0) = true := decide_eq_true (by omega)
      have hd1' : decide ((0 : Int) ≤ (K1 : Int)) = true := decide_eq_true (by omega)
      have HXK := Lib.hid hxk
      have hbm1 := HTH.out.1 _ (List.mem_of_getElem? hxk)
      dsimp only at hbm1
      clear hxk
      obtain ⟨rfl, rfl, rfl, rfl, rfl⟩ := HY2.out rfl
      clear HX1 HX2 HY1 HY2 HK1 HK2
      go_upto_region 5 with (fail)
      have r0 := fun d os => cell_regrown ST.out.k0 d os
      have r1 := fun d os => cell_regrown ST.out.k1 d os
      refine wp_region_quiet_below (by kernel_rfl) (by kernel_rfl) ?_
      repeat (any_goals (first | go_big_quiet_step ((first | (go_at_call 10; with_reducible exact Calls.regrown_of (HNA.out _ (ST.out.gr.below (below_regrown _ _ _)))) | (go_at_call 11; with_reducible exact Calls.regrown_of (HEA.out _ (ST.out.gr.below (below_regrown _ _ _)))))) | quiet_step ((first | (go_at_call 10; with_reducible exact Calls.regrown_of (HNA.out _ (ST.out.gr.below (below_regrown _ _ _)))) | (go_at_call 11; with_reducible exact Calls.regrown_of (HEA.out _ (ST.out.gr.below (below_regrown _ _ _))))))))
      refine wpQuiet_nil ?_
      intro w7 hw
      have hb := below_anyY hw
      clear hw r0 r1
      have ST := Lib.hid (ST.out.later hb)
      have HNB := Lib.hid (blk_below HNB.out hb)
      have HEB := Lib.hid (blk_below HEB.out hb)
      have HLP := Lib.hid (HLP.out.below hb)
      have HLQ := Lib.hid (HLQ.out.below hb)
      clear hb
      go_upto_region 8 with (fail)
      have r0 := fun d os => cell_regrown ST.out.k0 d os
      have r1 := fun d os => cell_regrown ST.out.k1 d os
      have nn0 := fun d os => cell_regrown (show w7.cell? ⟨N, 0, none⟩ = _ from (cell_of_row _ _ 0 _ _ _ HNB.out).trans rfl) d os
      have nn1 := fun d os => cell_regrown (show w7.cell? ⟨N, 1, none⟩ = _ from (cell_of_row _ _ 1 _ _ _ HNB.out).trans rfl) d os
      have nn2 := fun d os => cell_regrown (show w7.cell? ⟨N, 2, none⟩ = _ from (cell_of_row _ _ 2 _ _ _ HNB.out).trans rfl) d os
      have ee0 := fun d os => cell_regrown (show w7.cell? ⟨E, 0, none⟩ = _ from (cell_of_row _ _ 0 _ _ _ HEB.out).trans rfl) d os
      have ee1 := fun d os => cell_regrown (show w7.cell? ⟨E, 1, none⟩ = _ from (cell_of_row _ _ 1 _ _ _ HEB.out).trans rfl) d os
      have ee2 := fun d os => cell_regrown (show w7.cell? ⟨E, 2, none⟩ = _ from (cell_of_row _ _ 2 _ _ _ HEB.out).trans rfl) d os
      have ee3 := fun d os => cell_regrown (show w7.cell? ⟨E, 3, none⟩ = _ from (cell_of_row _ _ 3 _ _ _ HEB.out).trans rfl) d os
      have ee4 := fun d os => cell_regrown (show w7.cell? ⟨E, 4, none⟩ = _ from (cell_of_row _ _ 4 _ _ _ HEB.out).trans rfl) d os
      obtain ⟨b1', o1, L1, u1, z1, M1, rfl, x0, x1, x2, hp9⟩ := ST.out.gr.node hkn1 HXK.out
      dsimp only at x0 x1 x2 hp9
      have HP9 := Lib.hid hp9
      have y0 := fun d os => cell_regrown x0 d os
      have y1 := fun d os => cell_regrown x1 d os
      have y2 := fun d os => cell_regrown x2 d os
      clear x0 x1 x2 hp9
      have HSN := Lib.hid (fun (W : World) (g1 : LP W a1 ss.length ss b1 ps.length ps) (g2 : LP W L1 ss.length ss M1 ps.length ps) => snode_yes i a1 L1 b1 M1 ss.length a3 u1 ps.length b3 z1 ss ps W g1 g2 (by omega) (by omega))
      have HSE := Lib.hid (fun (W : World) (g1 : LP W c1 0 [] d1 0 []) => sedge_yes ⟨#[]⟩ ⟨#[]⟩ ⟨#[]⟩ c1 none d1 none 0 c3 0 0 d3 0 [] [] W g1 (lp_nil W) (by decide) (by decide))
      refine wp_region_quiet_below (by kernel_rfl) (by kernel_rfl) ?_
      repeat (any_goals (first | go_big_quiet_step ((first | (go_at_call 12; with_reducible exact Calls.regrown_of (HSN.out _ (HLP.out.below (below_regrown _ _ _)) (HP9.out.below (below_regrown _ _ _)))) | (go_at_call 13; with_reducible exact Calls.regrown_of (HSE.out _ (HLQ.out.below (below_regrown _ _ _)))))) | quiet_step ((first | (go_at_call 12; with_reducible exact Calls.regrown_of (HSN.out _ (HLP.out.below (below_regrown _ _ _)) (HP9.out.below (below_regrown _ _ _)))) | (go_at_call 13; with_reducible exact Calls.regrown_of (HSE.out _ (HLQ.out.below (below_regrown _ _ _))))))))
      refine wpQuiet_nil ?_
      intro w8 hw
      have hb := below_anyY hw
      clear hw r0 r1 nn0 nn1 nn2 ee0 ee1 ee2 ee3 ee4 y0 y1 y2 HSN HSE
      have ST := Lib.hid (ST.out.later hb)
      have HNB := Lib.hid (blk_below HNB.out hb)
      have HEB := Lib.hid (blk_below HEB.out hb)
      have HLP := Lib.hid (HLP.out.below hb)
      have HLQ := Lib.hid (HLQ.out.below hb)
      clear hb
      clear HNB HEB HLP HLQ
      go_upto_region 10 with (fail)
      have ST := Lib.hid (ST.out.later (Below.refl _ _).drew)
      refine wp_region_L_drew (S := fun _ W => W.heap[w.heap.size]? = some (.cells #[.slice _ n c, .slice _ n2 c2] 25 (0, 0))) (by kernel_rfl) ST.out.gb (fun hS hC => ?_)
      generalize w8.drew = v0 at *
      refine wpAnyL_take (i := 0) (oi := { dst := some 104, op := .load 25 (.tmp 3), type := _, pos := _, after := _, guard := none }) (v := ?_) rfl (by kernel_rfl) (by kernel_rfl) (by kernel_rfl) (fun _ _ _ h => h) (fun _ _ => Iff.rfl) hC (Or.inl ⟨by rfl, ?_⟩) ST.out.gb (fun hC hS => ?_)
      rotate_left
      · intro W9 hSw; have q0 := (cell_of_row _ _ 0 _ _ _ hSw.choose_spec.2.2).trans rfl; have q1 := (cell_of_row _ _ 1 _ _ _ hSw.choose_spec.2.2).trans rfl; go_simp; try (with_reducible rfl)
      try simp only [Act.put, List.setIfInBounds_toArray, List.set_cons_zero, List.set_cons_succ]
      refine wpAnyL_take (i := 1) (oi := { dst := some 105, op := .move (.tmp 1), type := _, pos := _, after := _, guard := none }) (v := ?_) rfl (by kernel_rfl) (by kernel_rfl) (by kernel_rfl) (fun _ _ _ h => h) (fun _ _ => Iff.rfl) hC (Or.inl ⟨by rfl, ?_⟩) ST.out.gb (fun hC hS => ?_)
      rotate_left
      · intro W9 hSw; skip; go_simp; try (with_reducible rfl)
      try simp only [Act.put, List.setIfInBounds_toArray, List.set_cons_zero, List.set_cons_succ]
      refine wpAnyL_take (i := 3) (oi := { dst := some 107, op := .load 25 (.tmp 3), type := _, pos := _, after := _, guard := none }) (v := ?_) rfl (by kernel_rfl) (by kernel_rfl) (by kernel_rfl) (fun _ _ _ h => h) (fun _ _ => Iff.rfl) hC (Or.inl ⟨by rfl, ?_⟩) ST.out.gb (fun hC hS => ?_)
      rotate_left
      · intro W9 hSw; have q0 := (cell_of_row _ _ 0 _ _ _ hSw.choose_spec.2.2).trans rfl; have q1 := (cell_of_row _ _ 1 _ _ _ hSw.choose_spec.2.2).trans rfl; go_simp; try (with_reducible rfl)
      try simp only [Act.put, List.setIfInBounds_toArray, List.set_cons_zero, List.set_cons_succ]
      refine wpAnyL_take (i := 4) (oi := { dst := some 108, op := .move (.tmp 1), type := _, pos := _, after := _, guard := none }) (v := ?_) rfl (by kernel_rfl) (by kernel_rfl) (by kernel_rfl) (fun _ _ _ h => h) (fun _ _ => Iff.rfl) hC (Or.inl ⟨by rfl, ?_⟩) ST.out.gb (fun hC hS => ?_)
      rotate_left
      · intro W9 hSw; skip; go_simp; try (with_reducible rfl)
      try simp only [Act.put, List.setIfInBounds_toArray, List.set_cons_zero, List.set_cons_succ]
      refine wpAnyL_ready (rs := [2]) (by kernel_rfl) (by simp) hC ?_
      refine AllReadyL.cons (o := { dst := some 106, op := .call { callee := .value (.func 15), args := #[.tmp 104, .tmp 105], argTypes := #[25, 9] }, type := _, pos := _, after := _, guard := none }) rfl (fun K9 hK => ?_) ?_
      · skip
        go_simp
        refine (HOU.out _ ST.out.gr).mono ?_
        rintro e v1 ⟨Ap, cp, Rp, rfl, hr, he, hb⟩
        have ST := Lib.hid (ST.out.later hb)
        have HRp := Lib.hid hr
        have HEp := Lib.hid he
        clear hr he hb
        refine hK _ _ ST.out.gb (fun hC => ?_)
        clear hK K9
        try simp only [Act.put, List.setIfInBounds_toArray, List.set_cons_zero, List.set_cons_succ]
        refine wpAnyL_ready (rs := [5]) (by kernel_rfl) (by simp) hC ?_
        refine AllReadyL.cons (o := { dst := some 109, op := .call { callee := .value (.func 16), args := #[.tmp 107, .tmp 108], argTypes := #[25, 9] }, type := _, pos := _, after := _, guard := none }) rfl (fun K9 hK => ?_) ?_
        · skip
          go_simp
          refine (HDO.out _ ST.out.gr).mono ?_
          rintro e v1 ⟨Aq, cq, Rq, rfl, hr, he, hb⟩
          have ST := Lib.hid (ST.out.later hb)
          have HRq := Lib.hid hr
          have HEq := Lib.hid he
          have HRp := Lib.hid (HRp.out.below hb)
          have HEp := Lib.hid (HEp.out.below hb)
          clear hr he hb
          refine hK _ _ ST.out.gb (fun hC => ?_)
          clear hK K9
          try simp only [Act.put, List.setIfInBounds_toArray, List.set_cons_zero, List.set_cons_succ]
          refine wpAnyL_ready (rs := [6]) (by kernel_rfl) (by simp) hC ?_
          refine AllReadyL.cons (o := { dst := some 110, op := .call { callee := .value (.func 14), args := #[.tmp 106, .tmp 109], argTypes := #[23, 23] }, type := _, pos := _, after := _, guard := none }) rfl (fun K9 hK => ?_) ?_
          · skip
            go_simp
            refine (samese_any Ap Aq YO.length cp cq Rp Rq YO _ HRp.out HEp.out HRq.out HEq.out HFO.out.1 HFO.out.2).mono ?_
            rintro e v1 ⟨rfl, hb⟩
            have ST := Lib.hid (ST.out.later hb)
            clear hb HRp HEp HRq HEq
            refine hK _ _ ST.out.gb (fun hC => ?_)
            clear hK K9
            try simp only [Act.put, List.setIfInBounds_toArray, List.set_cons_zero, List.set_cons_succ]
            refine wpAnyL_take (i := 7) (oi := { dst := some 111, op := .move (.tmp 110), type := _, pos := _, after := _, guard := none }) (v := ?_) rfl (by kernel_rfl) (by kernel_rfl) (by kernel_rfl) (fun _ _ _ h => h) (fun _ _ => Iff.rfl) hC (Or.inl ⟨by rfl, ?_⟩) ST.out.gb (fun hC hS => ?_)
            rotate_left
            · intro W9 hSw; skip; go_simp; try (with_reducible rfl)
            try simp only [Act.put, List.setIfInBounds_toArray, List.set_cons_zero, List.set_cons_succ]
            refine wpAnyL_take (i := 8) (oi := { dst := some 112, op := .load 25 (.tmp 3), type := _, pos := _, after := _, guard := some (7, true) }) (v := ?_) rfl (by kernel_rfl) (by kernel_rfl) (by kernel_rfl) (fun _ _ _ h => h) (fun _ _ => Iff.rfl) hC (Or.inl ⟨by rfl, ?_⟩) ST.out.gb (fun hC hS => ?_)
            rotate_left
            · intro W9 hSw; have q0 := (cell_of_row _ _ 0 _ _ _ hSw.choose_spec.2.2).trans rfl; have q1 := (cell_of_row _ _ 1 _ _ _ hSw.choose_spec.2.2).trans rfl; go_simp; try (with_reducible rfl)
            try simp only [Act.put, List.setIfInBounds_toArray, List.set_cons_zero, List.set_cons_succ]
            refine wpAnyL_take (i := 9) (oi := { dst := some 113, op := .move (.tmp 1), type := _, pos := _, after := _, guard := some (7, true) }) (v := ?_) rfl (by kernel_rfl) (by kernel_rfl) (by kernel_rfl) (fun _ _ _ h => h) (fun _ _ => Iff.rfl) hC (Or.inl ⟨by rfl, ?_⟩) ST.out.gb (fun hC hS => ?_)
            rotate_left
            · intro W9 hSw; skip; go_simp; try (with_reducible rfl)
            try simp only [Act.put, List.setIfInBounds_toArray, List.set_cons_zero, List.set_cons_succ]
            refine wpAnyL_take (i := 11) (oi := { dst := some 115, op := .load 25 (.tmp 3), type := _, pos := _, after := _, guard := some (7, true) }) (v := ?_) rfl (by kernel_rfl) (by kernel_rfl) (by kernel_rfl) (fun _ _ _ h => h) (fun _ _ => Iff.rfl) hC (Or.inl ⟨by rfl, ?_⟩) ST.out.gb (fun hC hS => ?_)
            rotate_left
            · intro W9 hSw; have q0 := (cell_of_row _ _ 0 _ _ _ hSw.choose_spec.2.2).trans rfl; have q1 := (cell_of_row _ _ 1 _ _ _ hSw.choose_spec.2.2).trans rfl; go_simp; try (with_reducible rfl)
            try simp only [Act.put, List.setIfInBounds_toArray, List.set_cons_zero, List.set_cons_succ]
            refine wpAnyL_take (i := 12) (oi := { dst := some 116, op := .move (.tmp 1), type := _, pos := _, after := _, guard := some (7, true) }) (v := ?_) rfl (by kernel_rfl) (by kernel_rfl) (by kernel_rfl) (fun _ _ _ h => h) (fun _ _ => Iff.rfl) hC (Or.inl ⟨by rfl, ?_⟩) ST.out.gb (fun hC hS => ?_)
            rotate_left
            · intro W9 hSw; skip; go_simp; try (with_reducible rfl)
            try simp only [Act.put, List.setIfInBounds_toArray, List.set_cons_zero, List.set_cons_succ]
            refine wpAnyL_ready (rs := [10]) (by kernel_rfl) (by simp) hC ?_
            refine AllReadyL.cons (o := { dst := some 114, op := .call { callee := .value (.func 17), args := #[.tmp 112, .tmp 113], argTypes := #[25, 9] }, type := _, pos := _, after := _, guard := some (7, true) }) rfl (fun K9 hK => ?_) ?_
            · skip
              go_simp
              refine (HIN.out _ ST.out.gr).mono ?_
              rintro e v1 ⟨Ap, cp, Rp, rfl, hr, he, hb⟩
              have ST := Lib.hid (ST.out.later hb)
              have HRp := Lib.hid hr
              have HEp := Lib.hid he
              clear hr he hb
              refine hK _ _ ST.out.gb (fun hC => ?_)
              clear hK K9
              try simp only [Act.put, List.setIfInBounds_toArray, List.set_cons_zero, List.set_cons_succ]
              refine wpAnyL_ready (rs := [13]) (by kernel_rfl) (by simp) hC ?_
              refine AllReadyL.cons (o := { dst := some 117, op := .call { callee := .value (.func 18), args := #[.tmp 115, .tmp 116], argTypes := #[25, 9] }, type := _, pos := _, after := _, guard := some (7, true) }) rfl (fun K9 hK => ?_) ?_
              · skip
                go_simp
                refine (HDI.out _ ST.out.gr).mono ?_
                rintro e v1 ⟨Aq, cq, Rq, rfl, hr, he, hb⟩
                have ST := Lib.hid (ST.out.later hb)
                have HRq := Lib.hid hr
                have HEq := Lib.hid he
                have HRp := Lib.hid (HRp.out.below hb)
                have HEp := Lib.hid (HEp.out.below hb)
                clear hr he hb
                refine hK _ _ ST.out.gb (fun hC => ?_)
                clear hK K9
                try simp only [Act.put, List.setIfInBounds_toArray, List.set_cons_zero, List.set_cons_succ]
                refine wpAnyL_ready (rs := [14]) (by kernel_rfl) (by simp) hC ?_
                refine AllReadyL.cons (o := { dst := some 118, op := .call { callee := .value (.func 14), args := #[.tmp 114, .tmp 117], argTypes := #[23, 23] }, type := _, pos := _, after := _, guard := some (7, true) }) rfl (fun K9 hK => ?_) ?_
                · skip
                  go_simp
                  refine (samese_any Ap Aq YI.length cp cq Rp Rq YI _ HRp.out HEp.out HRq.out HEq.out HFI.out.1 HFI.out.2).mono ?_
                  rintro e v1 ⟨rfl, hb⟩
                  have ST := Lib.hid (ST.out.later hb)
                  clear hb HRp HEp HRq HEq
                  refine hK _ _ ST.out.gb (fun hC => ?_)
                  clear hK K9
                  try simp only [Act.put, List.setIfInBounds_toArray, List.set_cons_zero, List.set_cons_succ]
                  refine wpAnyL_take (i := 15) (oi := { dst := some 119, op := .pick (.tmp 111) (.tmp 118) (.const (.bool false)), type := _, pos := _, after := _, guard := none }) (v := ?_) rfl (by kernel_rfl) (by kernel_rfl) (by kernel_rfl) (fun _ _ _ h => h) (fun _ _ => Iff.rfl) hC (Or.inl ⟨by rfl, ?_⟩) ST.out.gb (fun hC hS => ?_)
                  rotate_left
                  · intro W9 hSw; skip; go_simp; try (with_reducible rfl)
                  try simp only [Act.put, List.setIfInBounds_toArray, List.set_cons_zero, List.set_cons_succ]
                  refine wpAnyL_take (i := 16) (oi := { dst := some 120, op := .move (.tmp 119), type := _, pos := _, after := _, guard := none }) (v := ?_) rfl (by kernel_rfl) (by kernel_rfl) (by kernel_rfl) (fun _ _ _ h => h) (fun _ _ => Iff.rfl) hC (Or.inl ⟨by rfl, ?_⟩) ST.out.gb (fun hC hS => ?_)
                  rotate_left
                  · intro W9 hSw; skip; go_simp; try (with_reducible rfl)
                  try simp only [Act.put, List.setIfInBounds_toArray, List.set_cons_zero, List.set_cons_succ]
                  refine wpAnyL_take (i := 17) (oi := { dst := some 121, op := .load 25 (.tmp 3), type := _, pos := _, after := _, guard := some (16, true) }) (v := ?_) rfl (by kernel_rfl) (by kernel_rfl) (by kernel_rfl) (fun _ _ _ h => h) (fun _ _ => Iff.rfl) hC (Or.inl ⟨by rfl, ?_⟩) ST.out.gb (fun hC hS => ?_)
                  rotate_left
                  · intro W9 hSw; have q0 := (cell_of_row _ _ 0 _ _ _ hSw.choose_spec.2.2).trans rfl; have q1 := (cell_of_row _ _ 1 _ _ _ hSw.choose_spec.2.2).trans rfl; go_simp; try (with_reducible rfl)
                  try simp only [Act.put, List.setIfInBounds_toArray, List.set_cons_zero, List.set_cons_succ]
                  refine wpAnyL_take (i := 18) (oi := { dst := some 122, op := .move (.tmp 2), type := _, pos := _, after := _, guard := some (16, true) }) (v := ?_) rfl (by kernel_rfl) (by kernel_rfl) (by kernel_rfl) (fun _ _ _ h => h) (fun _ _ => Iff.rfl) hC (Or.inl ⟨by rfl, ?_⟩) ST.out.gb (fun hC hS => ?_)
                  rotate_left
                  · intro W9 hSw; skip; go_simp; try (with_reducible rfl)
                  try simp only [Act.put, List.setIfInBounds_toArray, List.set_cons_zero, List.set_cons_succ]
                  refine wpAnyL_take (i := 20) (oi := { dst := some 124, op := .load 25 (.tmp 3), type := _, pos := _, after := _, guard := some (16, true) }) (v := ?_) rfl (by kernel_rfl) (by kernel_rfl) (by kernel_rfl) (fun _ _ _ h => h) (fun _ _ => Iff.rfl) hC (Or.inl ⟨by rfl, ?_⟩) ST.out.gb (fun hC hS => ?_)
                  rotate_left
                  · intro W9 hSw; have q0 := (cell_of_row _ _ 0 _ _ _ hSw.choose_spec.2.2).trans rfl; have q1 := (cell_of_row _ _ 1 _ _ _ hSw.choose_spec.2.2).trans rfl; go_simp; try (with_reducible rfl)
                  try simp only [Act.put, List.setIfInBounds_toArray, List.set_cons_zero, List.set_cons_succ]
                  refine wpAnyL_take (i := 21) (oi := { dst := some 125, op := .move (.tmp 2), type := _, pos := _, after := _, guard := some (16, true) }) (v := ?_) rfl (by kernel_rfl) (by kernel_rfl) (by kernel_rfl) (fun _ _ _ h => h) (fun _ _ => Iff.rfl) hC (Or.inl ⟨by rfl, ?_⟩) ST.out.gb (fun hC hS => ?_)
                  rotate_left
                  · intro W9 hSw; skip; go_simp; try (with_reducible rfl)
                  try simp only [Act.put, List.setIfInBounds_toArray, List.set_cons_zero, List.set_cons_succ]
                  refine wpAnyL_ready (rs := [19]) (by kernel_rfl) (by simp) hC ?_
                  refine AllReadyL.cons (o := { dst := some 123, op := .call { callee := .value (.func 20), args := #[.tmp 121, .tmp 122], argTypes := #[25, 9] }, type := _, pos := _, after := _, guard := some (16, true) }) rfl (fun K9 hK => ?_) ?_
                  · skip
                    go_simp
                    refine (HLA.out _ ST.out.gr).mono ?_
                    rintro e v1 ⟨Ap, cp, Rp, rfl, hr, he, hb⟩
                    have ST := Lib.hid (ST.out.later hb)
                    have HRp := Lib.hid hr
                    have HEp := Lib.hid he
                    clear hr he hb
                    refine hK _ _ ST.out.gb (fun hC => ?_)
                    clear hK K9
                    try simp only [Act.put, List.setIfInBounds_toArray, List.set_cons_zero, List.set_cons_succ]
                    refine wpAnyL_ready (rs := [22]) (by kernel_rfl) (by simp) hC ?_
                    refine AllReadyL.cons (o := { dst := some 126, op := .call { callee := .value (.func 21), args := #[.tmp 124, .tmp 125], argTypes := #[25, 9] }, type := _, pos := _, after := _, guard := some (16, true) }) rfl (fun K9 hK => ?_) ?_
                    · skip
                      go_simp
                      refine (HDL.out _ ST.out.gr).mono ?_
                      rintro e v1 ⟨Aq, cq, Rq, rfl, hr, he, hb⟩
                      have ST := Lib.hid (ST.out.later hb)
                      have HRq := Lib.hid hr
                      have HEq := Lib.hid he
                      have HRp := Lib.hid (HRp.out.below hb)
                      have HEp := Lib.hid (HEp.out.below hb)
                      clear hr he hb
                      refine hK _ _ ST.out.gb (fun hC => ?_)
                      clear hK K9
                      try simp only [Act.put, List.setIfInBounds_toArray, List.set_cons_zero, List.set_cons_succ]
                      refine wpAnyL_ready (rs := [23]) (by kernel_rfl) (by simp) hC ?_
                      refine AllReadyL.cons (o := { dst := some 127, op := .call { callee := .value (.func 19), args := #[.tmp 123, .tmp 126], argTypes := #[22, 22] }, type := _, pos := _, after := _, guard := some (16, true) }) rfl (fun K9 hK => ?_) ?_
                      · skip
                        go_simp
                        refine (samesn_any Ap Aq XL.length cp cq Rp Rq XL _ HRp.out HEp.out HRq.out HEq.out HFL.out.1 HFL.out.2).mono ?_
                        rintro e v1 ⟨rfl, hb⟩
                        have ST := Lib.hid (ST.out.later hb)
                        clear hb HRp HEp HRq HEq
                        refine hK _ _ ST.out.gb (fun hC => ?_)
                        clear hK K9
                        try simp only [Act.put, List.setIfInBounds_toArray, List.set_cons_zero, List.set_cons_succ]
                        refine wpAnyL_take (i := 24) (oi := { dst := some 128, op := .pick (.tmp 120) (.tmp 127) (.const (.bool false)), type := _, pos := _, after := _, guard := none }) (v := ?_) rfl (by kernel_rfl) (by kernel_rfl) (by kernel_rfl) (fun _ _ _ h => h) (fun _ _ => Iff.rfl) hC (Or.inl ⟨by rfl, ?_⟩) ST.out.gb (fun hC hS => ?_)
                        rotate_left
                        · intro W9 hSw; skip; go_simp; try (with_reducible rfl)
                        try simp only [Act.put, List.setIfInBounds_toArray, List.set_cons_zero, List.set_cons_succ]
                        refine wpAnyL_take (i := 25) (oi := { dst := some 129, op := .move (.tmp 128), type := _, pos := _, after := _, guard := none }) (v := ?_) rfl (by kernel_rfl) (by kernel_rfl) (by kernel_rfl) (fun _ _ _ h => h) (fun _ _ => Iff.rfl) hC (Or.inl ⟨by rfl, ?_⟩) ST.out.gb (fun hC hS => ?_)
                        rotate_left
                        · intro W9 hSw; skip; go_simp; try (with_reducible rfl)
                        try simp only [Act.put, List.setIfInBounds_toArray, List.set_cons_zero, List.set_cons_succ]
                        refine wpAnyL_ready (rs := [26]) (by kernel_rfl) (by simp) hC ?_
                        refine AllReadyL.cons (o := { dst := some 130, op := .call { callee := .value (.func 7), args := #[], argTypes := #[] }, type := _, pos := _, after := _, guard := some (25, true) }) rfl (fun K9 hK => ?_) ?_
                        · skip
                          go_simp
                          refine (awake26 _).mono ?_
                          rintro e v1 ⟨rfl, hb⟩
                          have ST := Lib.hid (ST.out.later hb)
                          clear hb
                          refine hK _ _ ST.out.gb (fun hC => ?_)
                          clear hK K9
                          try simp only [Act.put, List.setIfInBounds_toArray, List.set_cons_zero, List.set_cons_succ]
                          refine wpAnyL_take (i := 27) (oi := { dst := some 131, op := .pick (.tmp 129) (.tmp 130) (.const (.bool false)), type := _, pos := _, after := _, guard := none }) (v := ?_) rfl (by kernel_rfl) (by kernel_rfl) (by kernel_rfl) (fun _ _ _ h => h) (fun _ _ => Iff.rfl) hC (Or.inl ⟨by rfl, ?_⟩) ST.out.gb (fun hC hS => ?_)
                          rotate_left
                          · intro W9 hSw; skip; go_simp; try (with_reducible rfl)
                          try simp only [Act.put, List.setIfInBounds_toArray, List.set_cons_zero, List.set_cons_succ]
                          refine wpAnyL_take (i := 28) (oi := { dst := some 6, op := .assign (.tmp 131), type := _, pos := _, after := _, guard := none }) (v := ?_) rfl (by kernel_rfl) (by kernel_rfl) (by kernel_rfl) (fun _ _ _ h => h) (fun _ _ => Iff.rfl) hC (Or.inl ⟨by rfl, ?_⟩) ST.out.gb (fun hC hS => ?_)
                          rotate_left
                          · intro W9 hSw; skip; go_simp; try (with_reducible rfl)
                          try simp only [Act.put, List.setIfInBounds_toArray, List.set_cons_zero, List.set_cons_succ]
                          refine wpAnyL_done (by kernel_rfl) ?_ _
                          clear hS hC
                          go_wp2_with fail
                          go_ret
                          exact ⟨rfl, ST.out.bel⟩
                        exact AllReadyL.nil
                      exact AllReadyL.nil
                    exact AllReadyL.nil
                  exact AllReadyL.nil
                exact AllReadyL.nil
              exact AllReadyL.nil
            exact AllReadyL.nil
          exact AllReadyL.nil
        exact AllReadyL.nil
      exact AllReadyL.nil
    · rw [if_pos rfl] at HNA
      rw [if_pos rfl] at HEA
      obtain ⟨hk1, _⟩ := HK1.out rfl
      have hkn1 : K1 < n := by rw [HL.out.1]; exact hk1
      have hxk := HX1.out rfl
      have hp0 : (0 : Int) ≤ (K1 : Int) := by omega
      have hp1 : (K1 : Int) < (n : Int) := by omega
      have hd1 : decide ((K1 : Int) ≥ 0) = true := decide_eq_true (by omega)
      have hd1' : decide ((0 : Int) ≤ (K1 : Int)) = true := decide_eq_true (by omega)
      have HXK := Lib.hid hxk
      have hbm1 := HTH.out.1 _ (List.mem_of_getElem? hxk)
      dsimp only at hbm1
      clear hxk
      obtain ⟨hk2, _⟩ := HK2.out rfl
      have hkn2 : K2 < n2 := by rw [HL.out.2]; exact hk2
      have hyk := HY1.out rfl
      have hr0 : (0 : Int) ≤ (K2 : Int) := by omega
      have hr1 : (K2 : Int) < (n2 : Int) := by omega
      have hd2 : decide ((K2 : Int) ≥ 0) = true := decide_eq_true (by omega)
      have hd2' : decide ((0 : Int) ≤ (K2 : Int)) = true := decide_eq_true (by omega)
      have HYK := Lib.hid hyk
      have hbm2 := HTH.out.2 _ (List.mem_of_getElem? hyk)
      dsimp only at hbm2
      clear hyk
      clear HX1 HX2 HY1 HY2 HK1 HK2
      go_upto_region 5 with (fail)
      have r0 := fun d os => cell_regrown ST.out.k0 d os
      have r1 := fun d os => cell_regrown ST.out.k1 d os
      refine wp_region_quiet_below (by kernel_rfl) (by kernel_rfl) ?_
      repeat (any_goals (first | go_big_quiet_step ((first | (go_at_call 10; with_reducible exact Calls.regrown_of (HNA.out _ (ST.out.gr.below (below_regrown _ _ _)))) | (go_at_call 11; with_reducible exact Calls.regrown_of (HEA.out _ (ST.out.gr.below (below_regrown _ _ _)))))) | quiet_step ((first | (go_at_call 10; with_reducible exact Calls.regrown_of (HNA.out _ (ST.out.gr.below (below_regrown _ _ _)))) | (go_at_call 11; with_reducible exact Calls.regrown_of (HEA.out _ (ST.out.gr.below (below_regrown _ _ _))))))))
      refine wpQuiet_nil ?_
      intro w7 hw
      have hb := below_anyY hw
      clear hw r0 r1
      have ST := Lib.hid (ST.out.later hb)
      have HNB := Lib.hid (blk_below HNB.out hb)
      have HEB := Lib.hid (blk_below HEB.out hb)
      have HLP := Lib.hid (HLP.out.below hb)
      have HLQ := Lib.hid (HLQ.out.below hb)
      clear hb
      go_upto_region 8 with (fail)
      have r0 := fun d os => cell_regrown ST.out.k0 d os
      have r1 := fun d os => cell_regrown ST.out.k1 d os
      have nn0 := fun d os => cell_regrown (show w7.cell? ⟨N, 0, none⟩ = _ from (cell_of_row _ _ 0 _ _ _ HNB.out).trans rfl) d os
      have nn1 := fun d os => cell_regrown (show w7.cell? ⟨N, 1, none⟩ = _ from (cell_of_row _ _ 1 _ _ _ HNB.out).trans rfl) d os
      have nn2 := fun d os => cell_regrown (show w7.cell? ⟨N, 2, none⟩ = _ from (cell_of_row _ _ 2 _ _ _ HNB.out).trans rfl) d os
      have ee0 := fun d os => cell_regrown (show w7.cell? ⟨E, 0, none⟩ = _ from (cell_of_row _ _ 0 _ _ _ HEB.out).trans rfl) d os
      have ee1 := fun d os => cell_regrown (show w7.cell? ⟨E, 1, none⟩ = _ from (cell_of_row _ _ 1 _ _ _ HEB.out).trans rfl) d os
      have ee2 := fun d os => cell_regrown (show w7.cell? ⟨E, 2, none⟩ = _ from (cell_of_row _ _ 2 _ _ _ HEB.out).trans rfl) d os
      have ee3 := fun d os => cell_regrown (show w7.cell? ⟨E, 3, none⟩ = _ from (cell_of_row _ _ 3 _ _ _ HEB.out).trans rfl) d os
      have ee4 := fun d os => cell_regrown (show w7.cell? ⟨E, 4, none⟩ = _ from (cell_of_row _ _ 4 _ _ _ HEB.out).trans rfl) d os
      obtain ⟨b1', o1, L1, u1, z1, M1, rfl, x0, x1, x2, hp9⟩ := ST.out.gr.node hkn1 HXK.out
      dsimp only at x0 x1 x2 hp9
      have HP9 := Lib.hid hp9
      have y0 := fun d os => cell_regrown x0 d os
      have y1 := fun d os => cell_regrown x1 d os
      have y2 := fun d os => cell_regrown x2 d os
      clear x0 x1 x2 hp9
      have HSN := Lib.hid (fun (W : World) (g1 : LP W a1 ss.length ss b1 ps.length ps) (g2 : LP W L1 ss.length ss M1 ps.length ps) => snode_yes i a1 L1 b1 M1 ss.length a3 u1 ps.length b3 z1 ss ps W g1 g2 (by omega) (by omega))
      obtain ⟨b2', o2, L2, u2, z2, M2, rfl, v0, v1, v2, v3, v4, hp8⟩ := ST.out.gr.edge hkn2 HYK.out
      dsimp only at v0 v1 v2 v3 v4 hp8
      have HP8 := Lib.hid hp8
      have s0 := fun d os => cell_regrown v0 d os
      have s1 := fun d os => cell_regrown v1 d os
      have s2 := fun d os => cell_regrown v2 d os
      have s3 := fun d os => cell_regrown v3 d os
      have s4 := fun d os => cell_regrown v4 d os
      clear v0 v1 v2 v3 v4 hp8
      have HSE := Lib.hid (fun (W : World) (g1 : LP W c1 tt.length tt d1 qs.length qs) (g2 : LP W L2 tt.length tt M2 qs.length qs) => sedge_yes j f g c1 L2 d1 M2 tt.length c3 u2 qs.length d3 z2 tt qs W g1 g2 (by omega) (by omega))
      refine wp_region_quiet_below (by kernel_rfl) (by kernel_rfl) ?_
      repeat (any_goals (first | go_big_quiet_step ((first | (go_at_call 12; with_reducible exact Calls.regrown_of (HSN.out _ (HLP.out.below (below_regrown _ _ _)) (HP9.out.below (below_regrown _ _ _)))) | (go_at_call 13; with_reducible exact Calls.regrown_of (HSE.out _ (HLQ.out.below (below_regrown _ _ _)) (HP8.out.below (below_regrown _ _ _)))))) | quiet_step ((first | (go_at_call 12; with_reducible exact Calls.regrown_of (HSN.out _ (HLP.out.below (below_regrown _ _ _)) (HP9.out.below (below_regrown _ _ _)))) | (go_at_call 13; with_reducible exact Calls.regrown_of (HSE.out _ (HLQ.out.below (below_regrown _ _ _)) (HP8.out.below (below_regrown _ _ _))))))))
      refine wpQuiet_nil ?_
      intro w8 hw
      have hb := below_anyY hw
      clear hw r0 r1 nn0 nn1 nn2 ee0 ee1 ee2 ee3 ee4 y0 y1 y2 s0 s1 s2 s3 s4 HSN HSE
      have ST := Lib.hid (ST.out.later hb)
      have HNB := Lib.hid (blk_below HNB.out hb)
      have HEB := Lib.hid (blk_below HEB.out hb)
      have HLP := Lib.hid (HLP.out.below hb)
      have HLQ := Lib.hid (HLQ.out.below hb)
      clear hb
      clear HNB HEB HLP HLQ
      go_upto_region 10 with (fail)
      have ST := Lib.hid (ST.out.later (Below.refl _ _).drew)
      refine wp_region_L_drew (S := fun _ W => W.heap[w.heap.size]? = some (.cells #[.slice _ n c, .slice _ n2 c2] 25 (0, 0))) (by kernel_rfl) ST.out.gb (fun hS hC => ?_)
      generalize w8.drew = v0 at *
      refine wpAnyL_take (i := 0) (oi := { dst := some 104, op := .load 25 (.tmp 3), type := _, pos := _, after := _, guard := none }) (v := ?_) rfl (by kernel_rfl) (by kernel_rfl) (by kernel_rfl) (fun _ _ _ h => h) (fun _ _ => Iff.rfl) hC (Or.inl ⟨by rfl, ?_⟩) ST.out.gb (fun hC hS => ?_)
      rotate_left
      · intro W9 hSw; have q0 := (cell_of_row _ _ 0 _ _ _ hSw.choose_spec.2.2).trans rfl; have q1 := (cell_of_row _ _ 1 _ _ _ hSw.choose_spec.2.2).trans rfl; go_simp; try (with_reducible rfl)
      try simp only [Act.put, List.setIfInBounds_toArray, List.set_cons_zero, List.set_cons_succ]
      refine wpAnyL_take (i := 1) (oi := { dst := some 105, op := .move (.tmp 1), type := _, pos := _, after := _, guard := none }) (v := ?_) rfl (by kernel_rfl) (by kernel_rfl) (by kernel_rfl) (fun _ _ _ h => h) (fun _ _ => Iff.rfl) hC (Or.inl ⟨by rfl, ?_⟩) ST.out.gb (fun hC hS => ?_)
      rotate_left
      · intro W9 hSw; skip; go_simp; try (with_reducible rfl)
      try simp only [Act.put, List.setIfInBounds_toArray, List.set_cons_zero, List.set_cons_succ]
      refine wpAnyL_take (i := 3) (oi := { dst := some 107, op := .load 25 (.tmp 3), type := _, pos := _, after := _, guard := none }) (v := ?_) rfl (by kernel_rfl) (by kernel_rfl) (by kernel_rfl) (fun _ _ _ h => h) (fun _ _ => Iff.rfl) hC (Or.inl ⟨by rfl, ?_⟩) ST.out.gb (fun hC hS => ?_)
      rotate_left
      · intro W9 hSw; have q0 := (cell_of_row _ _ 0 _ _ _ hSw.choose_spec.2.2).trans rfl; have q1 := (cell_of_row _ _ 1 _ _ _ hSw.choose_spec.2.2).trans rfl; go_simp; try (with_reducible rfl)
      try simp only [Act.put, List.setIfInBounds_toArray, List.set_cons_zero, List.set_cons_succ]
      refine wpAnyL_take (i := 4) (oi := { dst := some 108, op := .move (.tmp 1), type := _, pos := _, after := _, guard := none }) (v := ?_) rfl (by kernel_rfl) (by kernel_rfl) (by kernel_rfl) (fun _ _ _ h => h) (fun _ _ => Iff.rfl) hC (Or.inl ⟨by rfl, ?_⟩) ST.out.gb (fun hC hS => ?_)
      rotate_left
      · intro W9 hSw; skip; go_simp; try (with_reducible rfl)
      try simp only [Act.put, List.setIfInBounds_toArray, List.set_cons_zero, List.set_cons_succ]
      refine wpAnyL_ready (rs := [2]) (by kernel_rfl) (by simp) hC ?_
      refine AllReadyL.cons (o := { dst := some 106, op := .call { callee := .value (.func 15), args := #[.tmp 104, .tmp 105], argTypes := #[25, 9] }, type := _, pos := _, after := _, guard := none }) rfl (fun K9 hK => ?_) ?_
      · skip
        go_simp
        refine (HOU.out _ ST.out.gr).mono ?_
        rintro e v1 ⟨Ap, cp, Rp, rfl, hr, he, hb⟩
        have ST := Lib.hid (ST.out.later hb)
        have HRp := Lib.hid hr
        have HEp := Lib.hid he
        clear hr he hb
        refine hK _ _ ST.out.gb (fun hC => ?_)
        clear hK K9
        try simp only [Act.put, List.setIfInBounds_toArray, List.set_cons_zero, List.set_cons_succ]
        refine wpAnyL_ready (rs := [5]) (by kernel_rfl) (by simp) hC ?_
        refine AllReadyL.cons (o := { dst := some 109, op := .call { callee := .value (.func 16), args := #[.tmp 107, .tmp 108], argTypes := #[25, 9] }, type := _, pos := _, after := _, guard := none }) rfl (fun K9 hK => ?_) ?_
        · skip
          go_simp
          refine (HDO.out _ ST.out.gr).mono ?_
          rintro e v1 ⟨Aq, cq, Rq, rfl, hr, he, hb⟩
          have ST := Lib.hid (ST.out.later hb)
          have HRq := Lib.hid hr
          have HEq := Lib.hid he
          have HRp := Lib.hid (HRp.out.below hb)
          have HEp := Lib.hid (HEp.out.below hb)
          clear hr he hb
          refine hK _ _ ST.out.gb (fun hC => ?_)
          clear hK K9
          try simp only [Act.put, List.setIfInBounds_toArray, List.set_cons_zero, List.set_cons_succ]
          refine wpAnyL_ready (rs := [6]) (by kernel_rfl) (by simp) hC ?_
          refine AllReadyL.cons (o := { dst := some 110, op := .call { callee := .value (.func 14), args := #[.tmp 106, .tmp 109], argTypes := #[23, 23] }, type := _, pos := _, after := _, guard := none }) rfl (fun K9 hK => ?_) ?_
          · skip
            go_simp
            refine (samese_any Ap Aq YO.length cp cq Rp Rq YO _ HRp.out HEp.out HRq.out HEq.out HFO.out.1 HFO.out.2).mono ?_
            rintro e v1 ⟨rfl, hb⟩
            have ST := Lib.hid (ST.out.later hb)
            clear hb HRp HEp HRq HEq
            refine hK _ _ ST.out.gb (fun hC => ?_)
            clear hK K9
            try simp only [Act.put, List.setIfInBounds_toArray, List.set_cons_zero, List.set_cons_succ]
            refine wpAnyL_take (i := 7) (oi := { dst := some 111, op := .move (.tmp 110), type := _, pos := _, after := _, guard := none }) (v := ?_) rfl (by kernel_rfl) (by kernel_rfl) (by kernel_rfl) (fun _ _ _ h => h) (fun _ _ => Iff.rfl) hC (Or.inl ⟨by rfl, ?_⟩) ST.out.gb (fun hC hS => ?_)
            rotate_left
            · intro W9 hSw; skip; go_simp; try (with_reducible rfl)
            try simp only [Act.put, List.setIfInBounds_toArray, List.set_cons_zero, List.set_cons_succ]
            refine wpAnyL_take (i := 8) (oi := { dst := some 112, op := .load 25 (.tmp 3), type := _, pos := _, after := _, guard := some (7, true) }) (v := ?_) rfl (by kernel_rfl) (by kernel_rfl) (by kernel_rfl) (fun _ _ _ h => h) (fun _ _ => Iff.rfl) hC (Or.inl ⟨by rfl, ?_⟩) ST.out.gb (fun hC hS => ?_)
            rotate_left
            · intro W9 hSw; have q0 := (cell_of_row _ _ 0 _ _ _ hSw.choose_spec.2.2).trans rfl; have q1 := (cell_of_row _ _ 1 _ _ _ hSw.choose_spec.2.2).trans rfl; go_simp; try (with_reducible rfl)
            try simp only [Act.put, List.setIfInBounds_toArray, List.set_cons_zero, List.set_cons_succ]
            refine wpAnyL_take (i := 9) (oi := { dst := some 113, op := .move (.tmp 1), type := _, pos := _, after := _, guard := some (7, true) }) (v := ?_) rfl (by kernel_rfl) (by kernel_rfl) (by kernel_rfl) (fun _ _ _ h => h) (fun _ _ => Iff.rfl) hC (Or.inl ⟨by rfl, ?_⟩) ST.out.gb (fun hC hS => ?_)
            rotate_left
            · intro W9 hSw; skip; go_simp; try (with_reducible rfl)
            try simp only [Act.put, List.setIfInBounds_toArray, List.set_cons_zero, List.set_cons_succ]
            refine wpAnyL_take (i := 11) (oi := { dst := some 115, op := .load 25 (.tmp 3), type := _, pos := _, after := _, guard := some (7, true) }) (v := ?_) rfl (by kernel_rfl) (by kernel_rfl) (by kernel_rfl) (fun _ _ _ h => h) (fun _ _ => Iff.rfl) hC (Or.inl ⟨by rfl, ?_⟩) ST.out.gb (fun hC hS => ?_)
            rotate_left
            · intro W9 hSw; have q0 := (cell_of_row _ _ 0 _ _ _ hSw.choose_spec.2.2).trans rfl; have q1 := (cell_of_row _ _ 1 _ _ _ hSw.choose_spec.2.2).trans rfl; go_simp; try (with_reducible rfl)
            try simp only [Act.put, List.setIfInBounds_toArray, List.set_cons_zero, List.set_cons_succ]
            refine wpAnyL_take (i := 12) (oi := { dst := some 116, op := .move (.tmp 1), type := _, pos := _, after := _, guard := some (7, true) }) (v := ?_) rfl (by kernel_rfl) (by kernel_rfl) (by kernel_rfl) (fun _ _ _ h => h) (fun _ _ => Iff.rfl) hC (Or.inl ⟨by rfl, ?_⟩) ST.out.gb (fun hC hS => ?_)
            rotate_left
            · intro W9 hSw; skip; go_simp; try (with_reducible rfl)
            try simp only [Act.put, List.setIfInBounds_toArray, List.set_cons_zero, List.set_cons_succ]
            refine wpAnyL_ready (rs := [10]) (by kernel_rfl) (by simp) hC ?_
            refine AllReadyL.cons (o := { dst := some 114, op := .call { callee := .value (.func 17), args := #[.tmp 112, .tmp 113], argTypes := #[25, 9] }, type := _, pos := _, after := _, guard := some (7, true) }) rfl (fun K9 hK => ?_) ?_
            · skip
              go_simp
              refine (HIN.out _ ST.out.gr).mono ?_
              rintro e v1 ⟨Ap, cp, Rp, rfl, hr, he, hb⟩
              have ST := Lib.hid (ST.out.later hb)
              have HRp := Lib.hid hr
              have HEp := Lib.hid he
              clear hr he hb
              refine hK _ _ ST.out.gb (fun hC => ?_)
              clear hK K9
              try simp only [Act.put, List.setIfInBounds_toArray, List.set_cons_zero, List.set_cons_succ]
              refine wpAnyL_ready (rs := [13]) (by kernel_rfl) (by simp) hC ?_
              refine AllReadyL.cons (o := { dst := some 117, op := .call { callee := .value (.func 18), args := #[.tmp 115, .tmp 116], argTypes := #[25, 9] }, type := _, pos := _, after := _, guard := some (7, true) }) rfl (fun K9 hK => ?_) ?_
              · skip
                go_simp
                refine (HDI.out _ ST.out.gr).mono ?_
                rintro e v1 ⟨Aq, cq, Rq, rfl, hr, he, hb⟩
                have ST := Lib.hid (ST.out.later hb)
                have HRq := Lib.hid hr
                have HEq := Lib.hid he
                have HRp := Lib.hid (HRp.out.below hb)
                have HEp := Lib.hid (HEp.out.below hb)
                clear hr he hb
                refine hK _ _ ST.out.gb (fun hC => ?_)
                clear hK K9
                try simp only [Act.put, List.setIfInBounds_toArray, List.set_cons_zero, List.set_cons_succ]
                refine wpAnyL_ready (rs := [14]) (by kernel_rfl) (by simp) hC ?_
                refine AllReadyL.cons (o := { dst := some 118, op := .call { callee := .value (.func 14), args := #[.tmp 114, .tmp 117], argTypes := #[23, 23] }, type := _, pos := _, after := _, guard := some (7, true) }) rfl (fun K9 hK => ?_) ?_
                · skip
                  go_simp
                  refine (samese_any Ap Aq YI.length cp cq Rp Rq YI _ HRp.out HEp.out HRq.out HEq.out HFI.out.1 HFI.out.2).mono ?_
                  rintro e v1 ⟨rfl, hb⟩
                  have ST := Lib.hid (ST.out.later hb)
                  clear hb HRp HEp HRq HEq
                  refine hK _ _ ST.out.gb (fun hC => ?_)
                  clear hK K9
                  try simp only [Act.put, List.setIfInBounds_toArray, List.set_cons_zero, List.set_cons_succ]
                  refine wpAnyL_take (i := 15) (oi := { dst := some 119, op := .pick (.tmp 111) (.tmp 118) (.const (.bool false)), type := _, pos := _, after := _, guard := none }) (v := ?_) rfl (by kernel_rfl) (by kernel_rfl) (by kernel_rfl) (fun _ _ _ h => h) (fun _ _ => Iff.rfl) hC (Or.inl ⟨by rfl, ?_⟩) ST.out.gb (fun hC hS => ?_)
                  rotate_left
                  · intro W9 hSw; skip; go_simp; try (with_reducible rfl)
                  try simp only [Act.put, List.setIfInBounds_toArray, List.set_cons_zero, List.set_cons_succ]
                  refine wpAnyL_take (i := 16) (oi := { dst := some 120, op := .move (.tmp 119), type := _, pos := _, after := _, guard := none }) (v := ?_) rfl (by kernel_rfl) (by kernel_rfl) (by kernel_rfl) (fun _ _ _ h => h) (fun _ _ => Iff.rfl) hC (Or.inl ⟨by rfl, ?_⟩) ST.out.gb (fun hC hS => ?_)
                  rotate_left
                  · intro W9 hSw; skip; go_simp; try (with_reducible rfl)
                  try simp only [Act.put, List.setIfInBounds_toArray, List.set_cons_zero, List.set_cons_succ]
                  refine wpAnyL_take (i := 17) (oi := { dst := some 121, op := .load 25 (.tmp 3), type := _, pos := _, after := _, guard := some (16, true) }) (v := ?_) rfl (by kernel_rfl) (by kernel_rfl) (by kernel_rfl) (fun _ _ _ h => h) (fun _ _ => Iff.rfl) hC (Or.inl ⟨by rfl, ?_⟩) ST.out.gb (fun hC hS => ?_)
                  rotate_left
                  · intro W9 hSw; have q0 := (cell_of_row _ _ 0 _ _ _ hSw.choose_spec.2.2).trans rfl; have q1 := (cell_of_row _ _ 1 _ _ _ hSw.choose_spec.2.2).trans rfl; go_simp; try (with_reducible rfl)
                  try simp only [Act.put, List.setIfInBounds_toArray, List.set_cons_zero, List.set_cons_succ]
                  refine wpAnyL_take (i := 18) (oi := { dst := some 122, op := .move (.tmp 2), type := _, pos := _, after := _, guard := some (16, true) }) (v := ?_) rfl (by kernel_rfl) (by kernel_rfl) (by kernel_rfl) (fun _ _ _ h => h) (fun _ _ => Iff.rfl) hC (Or.inl ⟨by rfl, ?_⟩) ST.out.gb (fun hC hS => ?_)
                  rotate_left
                  · intro W9 hSw; skip; go_simp; try (with_reducible rfl)
                  try simp only [Act.put, List.setIfInBounds_toArray, List.set_cons_zero, List.set_cons_succ]
                  refine wpAnyL_take (i := 20) (oi := { dst := some 124, op := .load 25 (.tmp 3), type := _, pos := _, after := _, guard := some (16, true) }) (v := ?_) rfl (by kernel_rfl) (by kernel_rfl) (by kernel_rfl) (fun _ _ _ h => h) (fun _ _ => Iff.rfl) hC (Or.inl ⟨by rfl, ?_⟩) ST.out.gb (fun hC hS => ?_)
                  rotate_left
                  · intro W9 hSw; have q0 := (cell_of_row _ _ 0 _ _ _ hSw.choose_spec.2.2).trans rfl; have q1 := (cell_of_row _ _ 1 _ _ _ hSw.choose_spec.2.2).trans rfl; go_simp; try (with_reducible rfl)
                  try simp only [Act.put, List.setIfInBounds_toArray, List.set_cons_zero, List.set_cons_succ]
                  refine wpAnyL_take (i := 21) (oi := { dst := some 125, op := .move (.tmp 2), type := _, pos := _, after := _, guard := some (16, true) }) (v := ?_) rfl (by kernel_rfl) (by kernel_rfl) (by kernel_rfl) (fun _ _ _ h => h) (fun _ _ => Iff.rfl) hC (Or.inl ⟨by rfl, ?_⟩) ST.out.gb (fun hC hS => ?_)
                  rotate_left
                  · intro W9 hSw; skip; go_simp; try (with_reducible rfl)
                  try simp only [Act.put, List.setIfInBounds_toArray, List.set_cons_zero, List.set_cons_succ]
                  refine wpAnyL_ready (rs := [19]) (by kernel_rfl) (by simp) hC ?_
                  refine AllReadyL.cons (o := { dst := some 123, op := .call { callee := .value (.func 20), args := #[.tmp 121, .tmp 122], argTypes := #[25, 9] }, type := _, pos := _, after := _, guard := some (16, true) }) rfl (fun K9 hK => ?_) ?_
                  · skip
                    go_simp
                    refine (HLA.out _ ST.out.gr).mono ?_
                    rintro e v1 ⟨Ap, cp, Rp, rfl, hr, he, hb⟩
                    have ST := Lib.hid (ST.out.later hb)
                    have HRp := Lib.hid hr
                    have HEp := Lib.hid he
                    clear hr he hb
                    refine hK _ _ ST.out.gb (fun hC => ?_)
                    clear hK K9
                    try simp only [Act.put, List.setIfInBounds_toArray, List.set_cons_zero, List.set_cons_succ]
                    refine wpAnyL_ready (rs := [22]) (by kernel_rfl) (by simp) hC ?_
                    refine AllReadyL.cons (o := { dst := some 126, op := .call { callee := .value (.func 21), args := #[.tmp 124, .tmp 125], argTypes := #[25, 9] }, type := _, pos := _, after := _, guard := some (16, true) }) rfl (fun K9 hK => ?_) ?_
                    · skip
                      go_simp
                      refine (HDL.out _ ST.out.gr).mono ?_
                      rintro e v1 ⟨Aq, cq, Rq, rfl, hr, he, hb⟩
                      have ST := Lib.hid (ST.out.later hb)
                      have HRq := Lib.hid hr
                      have HEq := Lib.hid he
                      have HRp := Lib.hid (HRp.out.below hb)
                      have HEp := Lib.hid (HEp.out.below hb)
                      clear hr he hb
                      refine hK _ _ ST.out.gb (fun hC => ?_)
                      clear hK K9
                      try simp only [Act.put, List.setIfInBounds_toArray, List.set_cons_zero, List.set_cons_succ]
                      refine wpAnyL_ready (rs := [23]) (by kernel_rfl) (by simp) hC ?_
                      refine AllReadyL.cons (o := { dst := some 127, op := .call { callee := .value (.func 19), args := #[.tmp 123, .tmp 126], argTypes := #[22, 22] }, type := _, pos := _, after := _, guard := some (16, true) }) rfl (fun K9 hK => ?_) ?_
                      · skip
                        go_simp
                        refine (samesn_any Ap Aq XL.length cp cq Rp Rq XL _ HRp.out HEp.out HRq.out HEq.out HFL.out.1 HFL.out.2).mono ?_
                        rintro e v1 ⟨rfl, hb⟩
                        have ST := Lib.hid (ST.out.later hb)
                        clear hb HRp HEp HRq HEq
                        refine hK _ _ ST.out.gb (fun hC => ?_)
                        clear hK K9
                        try simp only [Act.put, List.setIfInBounds_toArray, List.set_cons_zero, List.set_cons_succ]
                        refine wpAnyL_take (i := 24) (oi := { dst := some 128, op := .pick (.tmp 120) (.tmp 127) (.const (.bool false)), type := _, pos := _, after := _, guard := none }) (v := ?_) rfl (by kernel_rfl) (by kernel_rfl) (by kernel_rfl) (fun _ _ _ h => h) (fun _ _ => Iff.rfl) hC (Or.inl ⟨by rfl, ?_⟩) ST.out.gb (fun hC hS => ?_)
                        rotate_left
                        · intro W9 hSw; skip; go_simp; try (with_reducible rfl)
                        try simp only [Act.put, List.setIfInBounds_toArray, List.set_cons_zero, List.set_cons_succ]
                        refine wpAnyL_take (i := 25) (oi := { dst := some 129, op := .move (.tmp 128), type := _, pos := _, after := _, guard := none }) (v := ?_) rfl (by kernel_rfl) (by kernel_rfl) (by kernel_rfl) (fun _ _ _ h => h) (fun _ _ => Iff.rfl) hC (Or.inl ⟨by rfl, ?_⟩) ST.out.gb (fun hC hS => ?_)
                        rotate_left
                        · intro W9 hSw; skip; go_simp; try (with_reducible rfl)
                        try simp only [Act.put, List.setIfInBounds_toArray, List.set_cons_zero, List.set_cons_succ]
                        refine wpAnyL_ready (rs := [26]) (by kernel_rfl) (by simp) hC ?_
                        refine AllReadyL.cons (o := { dst := some 130, op := .call { callee := .value (.func 7), args := #[], argTypes := #[] }, type := _, pos := _, after := _, guard := some (25, true) }) rfl (fun K9 hK => ?_) ?_
                        · skip
                          go_simp
                          refine (awake26 _).mono ?_
                          rintro e v1 ⟨rfl, hb⟩
                          have ST := Lib.hid (ST.out.later hb)
                          clear hb
                          refine hK _ _ ST.out.gb (fun hC => ?_)
                          clear hK K9
                          try simp only [Act.put, List.setIfInBounds_toArray, List.set_cons_zero, List.set_cons_succ]
                          refine wpAnyL_take (i := 27) (oi := { dst := some 131, op := .pick (.tmp 129) (.tmp 130) (.const (.bool false)), type := _, pos := _, after := _, guard := none }) (v := ?_) rfl (by kernel_rfl) (by kernel_rfl) (by kernel_rfl) (fun _ _ _ h => h) (fun _ _ => Iff.rfl) hC (Or.inl ⟨by rfl, ?_⟩) ST.out.gb (fun hC hS => ?_)
                          rotate_left
                          · intro W9 hSw; skip; go_simp; try (with_reducible rfl)
                          try simp only [Act.put, List.setIfInBounds_toArray, List.set_cons_zero, List.set_cons_succ]
                          refine wpAnyL_take (i := 28) (oi := { dst := some 6, op := .assign (.tmp 131), type := _, pos := _, after := _, guard := none }) (v := ?_) rfl (by kernel_rfl) (by kernel_rfl) (by kernel_rfl) (fun _ _ _ h => h) (fun _ _ => Iff.rfl) hC (Or.inl ⟨by rfl, ?_⟩) ST.out.gb (fun hC hS => ?_)
                          rotate_left
                          · intro W9 hSw; skip; go_simp; try (with_reducible rfl)
                          try simp only [Act.put, List.setIfInBounds_toArray, List.set_cons_zero, List.set_cons_succ]
                          refine wpAnyL_done (by kernel_rfl) ?_ _
                          clear hS hC
                          go_wp2_with fail
                          go_ret
                          exact ⟨rfl, ST.out.bel⟩
                        exact AllReadyL.nil
                      exact AllReadyL.nil
                    exact AllReadyL.nil
                  exact AllReadyL.nil
                exact AllReadyL.nil
              exact AllReadyL.nil
            exact AllReadyL.nil
          exact AllReadyL.nil
        exact AllReadyL.nil
      exact AllReadyL.nil
end Go.Proofs.YtagenkofoacajaaGreat.LGraphFinds
