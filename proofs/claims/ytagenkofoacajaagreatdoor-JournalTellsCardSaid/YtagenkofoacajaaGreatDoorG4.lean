/- Several texts of one family, merged for a claim. Conditions as in its parts. -/
import Derived.Test.YtagenkofoacajaaGreatDoorEc
import Derived.Test.YtagenkofoacajaaGreatDoorYh
import Derived.Test.YtagenkofoacajaaGreatDoorCo
import Derived.Test.YtagenkofoacajaaGreatDoorCr
namespace Go.Proofs.YtagenkofoacajaaGreatDoor
open Go.RowKit Vi Cm

theorem eight_is (Y : ByteArray) (q : Nat) (a b k t u : Nat) (x o n : ByteArray) (ma mb mk mx mo mn mt mu : Int) (h : Y.data.toList.drop q = put a ++ (put b ++ (put k ++ (put x.size ++ (x.data.toList ++ (put o.size ++ (o.data.toList ++ (put n.size ++ (n.data.toList ++ (put t ++ (put u ++ ([]))))))))))))
    (ha : (a : Int) ≤ ma) (ga : ma ≤ 4294967296) (hb : (b : Int) ≤ mb) (gb : mb ≤ 4294967296) (hk : (k : Int) ≤ mk) (gk : mk ≤ 4294967296) (hx : (x.size : Int) ≤ mx) (gx : mx ≤ 4294967296) (ho : (o.size : Int) ≤ mo) (go : mo ≤ 4294967296) (hn : (n.size : Int) ≤ mn) (gn : mn ≤ 4294967296) (ht : (t : Int) ≤ mt) (gt : mt ≤ 4294967296) (hu : (u : Int) ≤ mu) (gu : mu ≤ 4294967296) :
    ∃ q1 q2 q3 q4 q5 q6 q7 q8, Rd.num Y q 0 ma = ((a : Int), q1, 0) ∧ Rd.num Y q1 0 mb = ((b : Int), q2, 0) ∧ Rd.num Y q2 0 mk = ((k : Int), q3, 0) ∧ Rd.text Y q3 0 mx = (x, q4, 0) ∧ Rd.text Y q4 0 mo = (o, q5, 0) ∧ Rd.text Y q5 0 mn = (n, q6, 0) ∧ Rd.num Y q6 0 mt = ((t : Int), q7, 0) ∧ Rd.num Y q7 0 mu = ((u : Int), q8, 0) ∧ Y.data.toList.drop q8 = [] := by
  have e0 : Y.data.toList.drop (q + (put a).length) = put b ++ (put k ++ (put x.size ++ (x.data.toList ++ (put o.size ++ (o.data.toList ++ (put n.size ++ (n.data.toList ++ (put t ++ (put u ++ ([])))))))))) := by rw [← List.drop_drop, h, List.drop_left]
  have e1 : Y.data.toList.drop ((q + (put a).length) + (put b).length) = put k ++ (put x.size ++ (x.data.toList ++ (put o.size ++ (o.data.toList ++ (put n.size ++ (n.data.toList ++ (put t ++ (put u ++ ([]))))))))) := by rw [← List.drop_drop, e0, List.drop_left]
  have e2 : Y.data.toList.drop (((q + (put a).length) + (put b).length) + (put k).length) = put x.size ++ (x.data.toList ++ (put o.size ++ (o.data.toList ++ (put n.size ++ (n.data.toList ++ (put t ++ (put u ++ ([])))))))) := by rw [← List.drop_drop, e1, List.drop_left]
  have e3 : Y.data.toList.drop ((((q + (put a).length) + (put b).length) + (put k).length) + (put x.size).length + x.size) = put o.size ++ (o.data.toList ++ (put n.size ++ (n.data.toList ++ (put t ++ (put u ++ ([])))))) := by rw [← List.drop_drop, ← List.drop_drop, e2, List.drop_left, show x.size = x.data.toList.length from (ba_len x).symm, List.drop_left]
  have e4 : Y.data.toList.drop (((((q + (put a).length) + (put b).length) + (put k).length) + (put x.size).length + x.size) + (put o.size).length + o.size) = put n.size ++ (n.data.toList ++ (put t ++ (put u ++ ([])))) := by rw [← List.drop_drop, ← List.drop_drop, e3, List.drop_left, show o.size = o.data.toList.length from (ba_len o).symm, List.drop_left]
  have e5 : Y.data.toList.drop ((((((q + (put a).length) + (put b).length) + (put k).length) + (put x.size).length + x.size) + (put o.size).length + o.size) + (put n.size).length + n.size) = put t ++ (put u ++ ([])) := by rw [← List.drop_drop, ← List.drop_drop, e4, List.drop_left, show n.size = n.data.toList.length from (ba_len n).symm, List.drop_left]
  have e6 : Y.data.toList.drop (((((((q + (put a).length) + (put b).length) + (put k).length) + (put x.size).length + x.size) + (put o.size).length + o.size) + (put n.size).length + n.size) + (put t).length) = put u ++ ([]) := by rw [← List.drop_drop, e5, List.drop_left]
  have e7 : Y.data.toList.drop ((((((((q + (put a).length) + (put b).length) + (put k).length) + (put x.size).length + x.size) + (put o.size).length + o.size) + (put n.size).length + n.size) + (put t).length) + (put u).length) = [] := by rw [← List.drop_drop, e6, List.drop_left]
  exact ⟨_, _, _, _, _, _, _, _, num_is Y _ a ma _ h (by omega) ha, num_is Y _ b mb _ e0 (by omega) hb, num_is Y _ k mk _ e1 (by omega) hk, text_is Y _ mx x _ e2 (by omega) hx, text_is Y _ mo o _ e3 (by omega) ho, text_is Y _ mn n _ e4 (by omega) hn, num_is Y _ t mt _ e5 (by omega) ht, num_is Y _ u mu _ e6 (by omega) hu, e7⟩
theorem eight_of (Y : ByteArray) (q q1 q2 q3 q4 q5 q6 q7 q8 : Nat) (e e1 e2 e3 e4 e5 e6 e7 : Int) (a b k t u : Int) (x o n : ByteArray) (ma mb mk mx mo mn mt mu : Int) (hq : q ≤ Y.size)
    (h1 : Rd.num Y q e ma = (a, q1, e1)) (h2 : Rd.num Y q1 e1 mb = (b, q2, e2)) (h3 : Rd.num Y q2 e2 mk = (k, q3, e3)) (h4 : Rd.text Y q3 e3 mx = (x, q4, e4)) (h5 : Rd.text Y q4 e4 mo = (o, q5, e5)) (h6 : Rd.text Y q5 e5 mn = (n, q6, e6)) (h7 : Rd.num Y q6 e6 mt = (t, q7, e7)) (h8 : Rd.num Y q7 e7 mu = (u, q8, 0)) :
    e = 0 ∧ ∃ a' b' k' t' u' : Nat, a = a' ∧ b = b' ∧ k = k' ∧ t = t' ∧ u = u' ∧ Y.data.toList.drop q = put a' ++ (put b' ++ (put k' ++ (put x.size ++ (x.data.toList ++ (put o.size ++ (o.data.toList ++ (put n.size ++ (n.data.toList ++ (put t' ++ (put u' ++ (Y.data.toList.drop q8))))))))))) := by
  have l1 : q1 ≤ Y.size := by have := Rd.num_le Y q e ma hq; rw [h1] at this; exact this
  have l2 : q2 ≤ Y.size := by have := Rd.num_le Y q1 e1 mb l1; rw [h2] at this; exact this
  have l3 : q3 ≤ Y.size := by have := Rd.num_le Y q2 e2 mk l2; rw [h3] at this; exact this
  have l4 : q4 ≤ Y.size := by have := Rd.text_le Y q3 e3 mx l3; rw [h4] at this; exact this
  have l5 : q5 ≤ Y.size := by have := Rd.text_le Y q4 e4 mo l4; rw [h5] at this; exact this
  have l6 : q6 ≤ Y.size := by have := Rd.text_le Y q5 e5 mn l5; rw [h6] at this; exact this
  have l7 : q7 ≤ Y.size := by have := Rd.num_le Y q6 e6 mt l6; rw [h7] at this; exact this
  have l8 : q8 ≤ Y.size := by have := Rd.num_le Y q7 e7 mu l7; rw [h8] at this; exact this
  obtain ⟨z7, u', rfl, _, w7, _⟩ := num_of _ _ _ _ _ _ h8
  subst z7
  obtain ⟨z6, t', rfl, _, w6, _⟩ := num_of _ _ _ _ _ _ h7
  subst z6
  obtain ⟨z5, _, _, w5⟩ := text_of _ _ _ _ _ _ l5 h6
  subst z5
  obtain ⟨z4, _, _, w4⟩ := text_of _ _ _ _ _ _ l4 h5
  subst z4
  obtain ⟨z3, _, _, w3⟩ := text_of _ _ _ _ _ _ l3 h4
  subst z3
  obtain ⟨z2, k', rfl, _, w2, _⟩ := num_of _ _ _ _ _ _ h3
  subst z2
  obtain ⟨z1, b', rfl, _, w1, _⟩ := num_of _ _ _ _ _ _ h2
  subst z1
  obtain ⟨z0, a', rfl, _, w0, _⟩ := num_of _ _ _ _ _ _ h1
  subst z0
  exact ⟨rfl, a', b', k', t', u', rfl, rfl, rfl, rfl, rfl, by rw [w0, w1, w2, w3, w4, w5, w6, w7]⟩
/-- the bytes of a record behind its sign -/
def tailR (a b k : Nat) (x o n : ByteArray) (t u : Nat) : List UInt8 := put a ++ (put b ++ (put k ++ (put x.size ++ (x.data.toList ++ (put o.size ++ (o.data.toList ++ (put n.size ++ (n.data.toList ++ (put t ++ (put u ++ ([])))))))))))
theorem bodyR_list (a b k : Nat) (x o n : ByteArray) (t u : Nat) : (bodyR a b k x o n t u).data.toList = 82 :: tailR a b k x o n t u := by
  unfold bodyR tailR
  simp only [catN, catT]
  simp only [ba_app, ptx_list, pnb]
  simp
theorem rok_nat {a b k : Int} {x o n : ByteArray} {t u : Int} (h : rok a b k x o n t u = true) : ∃ a' b' k' t' u' : Nat, a = a' ∧ b = b' ∧ k = k' ∧ t = t' ∧ u = u' := by
  have h1 := rok_bd h
  exact ⟨a.toNat, b.toNat, k.toNat, t.toNat, u.toNat, by omega, by omega, by omega, by omega, by omega⟩
theorem rec_front {a b k : Int} {x o n : ByteArray} {t u : Int} (h : rok a b k x o n t u = true) : bareB (recS a b k x o n t u) = true ∧ bareT (recS a b k x o n t u) = sealH (bodyR a b k x o n t u) := by
  have hz := bodyR_size h
  refine bare_is _ ?_
  have h1 := ptx_le (sealH (bodyR a b k x o n t u)) 1 (by omega) (by rw [sealH_size]; omega)
  rw [sealH_size] at h1
  omega
theorem rec_size {a b k : Int} {x o n : ByteArray} {t u : Int} (h : rok a b k x o n t u = true) : (recS a b k x o n t u).size = 128 := (bare_of _ (rec_front h).1).2.2
/-- what is read of a record's bytes, by the program's limits -/
theorem rec_reads {a b k : Int} {x o n : ByteArray} {t u : Int} (h : rok a b k x o n t u = true) (Y : ByteArray) (q : Nat) (hY : ∀ a' b' k' t' u' : Nat, a = a' → b = b' → k = k' → t = t' → u = u' → Y.data.toList.drop q = tailR a' b' k' x o n t' u')
    (ma mb mk mx mo mn mt mu : Int) (ha : a ≤ ma) (hb : b ≤ mb) (hk : k ≤ mk) (hx : (x.size : Int) ≤ mx) (ho : (o.size : Int) ≤ mo) (hn : (n.size : Int) ≤ mn) (ht : t ≤ mt) (hu : u ≤ mu)
    (ga : ma ≤ 4294967296) (gb' : mb ≤ 4294967296) (gk' : mk ≤ 4294967296) (gx : mx ≤ 4294967296) (go : mo ≤ 4294967296) (gn' : mn ≤ 4294967296) (gt : mt ≤ 4294967296) (gu : mu ≤ 4294967296) :
    ∃ q1 q2 q3 q4 q5 q6 q7 q8, Rd.num Y q 0 ma = (a, q1, 0) ∧ Rd.num Y q1 0 mb = (b, q2, 0) ∧ Rd.num Y q2 0 mk = (k, q3, 0) ∧ Rd.text Y q3 0 mx = (x, q4, 0) ∧ Rd.text Y q4 0 mo = (o, q5, 0) ∧ Rd.text Y q5 0 mn = (n, q6, 0) ∧ Rd.num Y q6 0 mt = (t, q7, 0) ∧ Rd.num Y q7 0 mu = (u, q8, 0) ∧ Rd.fin Y q8 0 = 0 := by
  obtain ⟨a', b', k', t', u', rfl, rfl, rfl, rfl, rfl⟩ := rok_nat h
  have hl := hY a' b' k' t' u' rfl rfl rfl rfl rfl
  unfold tailR at hl
  obtain ⟨q1, q2, q3, q4, q5, q6, q7, q8, r1, r2, r3, r4, r5, r6, r7, r8, r9⟩ := eight_is Y q a' b' k' t' u' x o n ma mb mk mx mo mn mt mu hl ha ga hb gb' hk gk' hx gx ho go hn gn' ht gt hu gu
  exact ⟨q1, q2, q3, q4, q5, q6, q7, q8, r1, r2, r3, r4, r5, r6, r7, r8, fin_is _ _ r9⟩
theorem bodyR_tail {a b k : Int} {x o n : ByteArray} {t u : Int} (a' b' k' t' u' : Nat) (ha : a = a') (hb : b = b') (hk : k = k') (ht : t = t') (hu : u = u') : (bodyR a b k x o n t u).data.toList.drop 1 = tailR a' b' k' x o n t' u' := by
  subst ha hb hk ht hu
  rw [bodyR_list]; rfl
theorem rec_fix {a b k : Int} {x o n : ByteArray} {t u : Int} (h : rok a b k x o n t u = true) : Rd.fix (bodyR a b k x o n t u) 0 0 1 = (⟨#[82]⟩, 1, 0) := by
  obtain ⟨a', b', k', t', u', rfl, rfl, rfl, rfl, rfl⟩ := rok_nat h
  exact fix_is _ 0 ⟨#[82]⟩ (tailR a' b' k' x o n t' u') (Nat.zero_le _) (by rw [List.drop_zero, bodyR_list]; rfl)
/-- what was read, to its end, of a text behind a sign and ahead of its sum, is a record's sector -/
theorem rec_of (S X : ByteArray) (q0 q1 q2 q3 q4 q5 q6 q7 q8 : Nat) (e0 e1 e2 e3 e4 e5 e6 e7 e8 a b k : Int) (x o n : ByteArray) (t u : Int) (hb : bareB S = true) (hs : sealed (bareT S) = true) (hx : (bareT S).extract 0 ((bareT S).size - 4) = X)
    (hf : Rd.fix X 0 0 1 = (⟨#[82]⟩, q0, e0)) (h1 : Rd.num X q0 e0 4294967295 = (a, q1, e1)) (h2 : Rd.num X q1 e1 4095 = (b, q2, e2)) (h3 : Rd.num X q2 e2 2 = (k, q3, e3)) (h4 : Rd.text X q3 e3 12 = (x, q4, e4)) (h5 : Rd.text X q4 e4 32 = (o, q5, e5)) (h6 : Rd.text X q5 e5 32 = (n, q6, e6)) (h7 : Rd.num X q6 e6 524288 = (t, q7, e7)) (h8 : Rd.num X q7 e7 4294967296 = (u, q8, e8))
    (hfin : Rd.fin X q8 e8 = 0) : S = recS a b k x o n t u := by
  obtain ⟨k8, hend⟩ := fin_of _ _ _ hfin
  subst k8
  have hq : q0 ≤ X.size := by have := Rd.fix_le X 0 0 1 (Nat.zero_le _); rw [hf] at this; exact this
  obtain ⟨k0, a', b', k', t', u', rfl, rfl, rfl, rfl, rfl, hd⟩ := eight_of X q0 q1 q2 q3 q4 q5 q6 q7 q8 _ _ _ _ _ _ _ _ _ _ _ _ _ _ _ _ _ _ _ _ _ _ _ _ hq h1 h2 h3 h4 h5 h6 h7 h8
  subst k0
  obtain ⟨_, _, hq0, hl⟩ := fix_of X 0 0 1 ⟨#[82]⟩ q0 (Nat.zero_le _) hf
  rw [List.drop_zero, hd, hend] at hl
  have hX : X = bodyR a' b' k' x o n t' u' := ba_ext (by rw [hl, bodyR_list]; rfl)
  have ht := seal_of _ hs
  rw [hx, hX] at ht
  rw [(bare_of S hb).1, ht]
  rfl
def IsRec (S : ByteArray) : Prop := ∃ (a b k : Int) (x o n : ByteArray) (t u : Int), rok a b k x o n t u = true ∧ S = recS a b k x o n t u
end Go.Proofs.YtagenkofoacajaaGreatDoor

namespace Go.Proofs.YtagenkofoacajaaGreatDoor
open Go.RowKit Vi Cm

theorem info_rec (a b k x o n t u : Value) : (Tryz.prog.info? 25).map (·.size) = some (#[a, b, k, x, o, n, t, u] : Array Value).size := by kernel_rfl
theorem one_rec (a b k : Int) (x o n : ByteArray) (t u : Int) : (#[.int .i64 a, .int .i64 b, .int .i64 k, .string x, .string o, .string n, .int .i64 t, .int .i64 u] : Array Value).all (·.oneCell') = true := by simp [Value.oneCell']
theorem results_cE {fn : Func} {p : Tmp} {ty : TypeId} (h : fn.results = #[.cell p ty]) (tmps : Array Value) (w : World) (g : Nat) (cs : Array Value)
    (hp : tmps.getD p undef = .pointer (some ⟨g, 0, none⟩)) (hr : (loadVar ty ⟨g, 0, none⟩).run Tryz.prog w = .ok (.agg cs) w) :
    (results fn tmps).run Tryz.prog w = .ok (.agg cs) w := by
  have hp' : tmps[p]?.getD undef = .pointer (some ⟨g, 0, none⟩) := by simpa using hp
  simp [results, h, hp', asAddr, hr]
theorem but_rowE {B : Nat} {w W W' : World} (h : But B w W) (hb : Below w.heap.size W W') : But B w W' :=
  ⟨hb.os.trans h.os, hb.tape.trans h.tape, hb.output.trans h.output, Nat.le_trans h.size hb.size, fun i hi hne => (hb.block i hi).trans (h.block i hi hne)⟩
set_option maxHeartbeats 4000000 in
set_option maxRecDepth 100000 in
theorem eread_any (w : World) (B : Nat) (X : ByteArray) (q0 q1 q2 q3 q4 q5 q6 q7 q8 : Nat) (e0 e1 e2 e3 e4 e5 e6 e7 e8 a b k : Int) (x o n : ByteArray) (t u : Int) (hS : X.size ≤ 1000000) (hq : q0 ≤ X.size) (h : Sc w B true X q0 e0)
    (h1 : Rd.num X q0 e0 4294967295 = (a, q1, e1)) (h2 : Rd.num X q1 e1 4095 = (b, q2, e2)) (h3 : Rd.num X q2 e2 2 = (k, q3, e3)) (h4 : Rd.text X q3 e3 12 = (x, q4, e4)) (h5 : Rd.text X q4 e4 32 = (o, q5, e5)) (h6 : Rd.text X q5 e5 32 = (n, q6, e6)) (h7 : Rd.num X q6 e6 524288 = (t, q7, e7)) (h8 : Rd.num X q7 e7 4294967296 = (u, q8, e8)) :
    Calls Tryz.prog 83 #[.func (.func 84) #[.pointer (some ⟨B, 0, none⟩)] #[], .func (.func 85) #[.pointer (some ⟨B, 0, none⟩)] #[]] w
      fun e w' => e = .returned (.agg #[.int .i64 a, .int .i64 b, .int .i64 k, .string x, .string o, .string n, .int .i64 t, .int .i64 u]) ∧ Sc w' B true X q8 e8 ∧ But B w w' := by
  have hBlt := h.lt
  have l1 : q1 ≤ X.size := by have := Rd.num_le X q0 e0 4294967295 hq; rw [h1] at this; exact this
  have l2 : q2 ≤ X.size := by have := Rd.num_le X q1 e1 4095 l1; rw [h2] at this; exact this
  have l3 : q3 ≤ X.size := by have := Rd.num_le X q2 e2 2 l2; rw [h3] at this; exact this
  have l4 : q4 ≤ X.size := by have := Rd.text_le X q3 e3 12 l3; rw [h4] at this; exact this
  have l5 : q5 ≤ X.size := by have := Rd.text_le X q4 e4 32 l4; rw [h5] at this; exact this
  have l6 : q6 ≤ X.size := by have := Rd.text_le X q5 e5 32 l5; rw [h6] at this; exact this
  have l7 : q7 ≤ X.size := by have := Rd.num_le X q6 e6 524288 l6; rw [h7] at this; exact this
  have l8 : q8 ≤ X.size := by have := Rd.num_le X q7 e7 4294967296 l7; rw [h8] at this; exact this
  have H1 := Lib.hid (fun (W : World) (g : Sc W B true X q0 e0) => numU W B X q0 e0 4294967295 hS hq g (by omega))
  rw [h1] at H1
  dsimp only at H1
  have H2 := Lib.hid (fun (W : World) (g : Sc W B true X q1 e1) => numU W B X q1 e1 4095 hS l1 g (by omega))
  rw [h2] at H2
  dsimp only at H2
  have H3 := Lib.hid (fun (W : World) (g : Sc W B true X q2 e2) => numU W B X q2 e2 2 hS l2 g (by omega))
  rw [h3] at H3
  dsimp only at H3
  have H4 := Lib.hid (fun (W : World) (g : Sc W B true X q3 e3) => textU W B X q3 e3 12 hS l3 g (by omega))
  rw [h4] at H4
  dsimp only at H4
  have H5 := Lib.hid (fun (W : World) (g : Sc W B true X q4 e4) => textU W B X q4 e4 32 hS l4 g (by omega))
  rw [h5] at H5
  dsimp only at H5
  have H6 := Lib.hid (fun (W : World) (g : Sc W B true X q5 e5) => textU W B X q5 e5 32 hS l5 g (by omega))
  rw [h6] at H6
  dsimp only at H6
  have H7 := Lib.hid (fun (W : World) (g : Sc W B true X q6 e6) => numU W B X q6 e6 524288 hS l6 g (by omega))
  rw [h7] at H7
  dsimp only at H7
  have H8 := Lib.hid (fun (W : World) (g : Sc W B true X q7 e7) => numU W B X q7 e7 4294967296 hS l7 g (by omega))
  rw [h8] at H8
  dsimp only at H8
  clear h1 h2 h3 h4 h5 h6 h7 h8 l1 l2 l3 l4 l5 l6 l7 l8 hq
  have HK1 := Lib.hid (But.refl B w)
  have HS2 := Lib.hid h
  clear h
  go_enter Tryz.func83, Tryz.ntmps83
  go_wp2_with fail
  have HF3 := Lib.hid (blk_new w (.cells #[.int .i64 0, .int .i64 0, .int .i64 0, .string ⟨#[]⟩, .string ⟨#[]⟩, .string ⟨#[]⟩, .int .i64 0, .int .i64 0] 25 (0, 0)))
  have HK4 := Lib.hid (HK1.out.alloc (.cells #[.int .i64 0, .int .i64 0, .int .i64 0, .string ⟨#[]⟩, .string ⟨#[]⟩, .string ⟨#[]⟩, .int .i64 0, .int .i64 0] 25 (0, 0)))
  clear HK1
  have HS5 := Lib.hid (HS2.out.alloc (.cells #[.int .i64 0, .int .i64 0, .int .i64 0, .string ⟨#[]⟩, .string ⟨#[]⟩, .string ⟨#[]⟩, .int .i64 0, .int .i64 0] 25 (0, 0)))
  clear HS2
  refine (H1.out (w.alloc (.cells #[.int .i64 0, .int .i64 0, .int .i64 0, .string ⟨#[]⟩, .string ⟨#[]⟩, .string ⟨#[]⟩, .int .i64 0, .int .i64 0] 25 (0, 0))) HS5.out).mono ?_
  rintro e w1 ⟨rfl, hs, hk⟩
  have HF6 := Lib.hid (blk_but HF3.out hk (by omega))
  have HK7 := Lib.hid (HK4.out.trans hk)
  have HS8 := Lib.hid (hs)
  clear hs hk HK4 HS5 HF3
  have hk9 := HK7.out.size
  go_wp2_with fail
  refine (H2.out w1 HS8.out).mono ?_
  rintro e w2 ⟨rfl, hs, hk⟩
  have HF10 := Lib.hid (blk_but HF6.out hk (by omega))
  have HK11 := Lib.hid (HK7.out.trans hk)
  have HS12 := Lib.hid (hs)
  clear hs hk HK7 HS8 HF6
  have hk13 := HK11.out.size
  go_wp2_with fail
  refine (H3.out w2 HS12.out).mono ?_
  rintro e w3 ⟨rfl, hs, hk⟩
  have HF14 := Lib.hid (blk_but HF10.out hk (by omega))
  have HK15 := Lib.hid (HK11.out.trans hk)
  have HS16 := Lib.hid (hs)
  clear hs hk HK11 HS12 HF10
  have hk17 := HK15.out.size
  go_wp2_with fail
  refine (H4.out w3 HS16.out).mono ?_
  rintro e w4 ⟨rfl, hs, hk⟩
  have HF18 := Lib.hid (blk_but HF14.out hk (by omega))
  have HK19 := Lib.hid (HK15.out.trans hk)
  have HS20 := Lib.hid (hs)
  clear hs hk HK15 HS16 HF14
  have hk21 := HK19.out.size
  go_wp2_with fail
  refine (H5.out w4 HS20.out).mono ?_
  rintro e w5 ⟨rfl, hs, hk⟩
  have HF22 := Lib.hid (blk_but HF18.out hk (by omega))
  have HK23 := Lib.hid (HK19.out.trans hk)
  have HS24 := Lib.hid (hs)
  clear hs hk HK19 HS20 HF18
  have hk25 := HK23.out.size
  go_wp2_with fail
  refine (H6.out w5 HS24.out).mono ?_
  rintro e w6 ⟨rfl, hs, hk⟩
  have HF26 := Lib.hid (blk_but HF22.out hk (by omega))
  have HK27 := Lib.hid (HK23.out.trans hk)
  have HS28 := Lib.hid (hs)
  clear hs hk HK23 HS24 HF22
  have hk29 := HK27.out.size
  go_wp2_with fail
  refine (H7.out w6 HS28.out).mono ?_
  rintro e w7 ⟨rfl, hs, hk⟩
  have HF30 := Lib.hid (blk_but HF26.out hk (by omega))
  have HK31 := Lib.hid (HK27.out.trans hk)
  have HS32 := Lib.hid (hs)
  clear hs hk HK27 HS28 HF26
  have hk33 := HK31.out.size
  go_wp2_with fail
  refine (H8.out w7 HS32.out).mono ?_
  rintro e w8 ⟨rfl, hs, hk⟩
  have HF34 := Lib.hid (blk_but HF30.out hk (by omega))
  have HK35 := Lib.hid (HK31.out.trans hk)
  have HS36 := Lib.hid (hs)
  clear hs hk HK31 HS32 HF30
  have hk37 := HK35.out.size
  go_wp2_with (refine wpList_store_rowY rfl 25 (.tmp 4) (.tmp 21) rfl (w.heap.size) #[.int .i64 a, .int .i64 b, .int .i64 k, .string x, .string o, .string n, .int .i64 t, .int .i64 u] rfl rfl 25 _ HF34.out (info_rec _ _ _ _ _ _ _ _) rfl (one_rec _ _ _ _ _ _ _ _) (w.heap.size) w8 (Below.refl _ _) (by omega) ?_)
  intro W9 hbk hoth hbel _
  have HK9 := Lib.hid (but_rowE HK35.out (hbel.out.mono (by omega)))
  have HS9 := Lib.hid (HS36.out.kept (hoth.out B (by omega)))
  go_wp2_with fail
  refine bodyPost_ret (results_cE rfl _ _ (w.heap.size) #[.int .i64 a, .int .i64 b, .int .i64 k, .string x, .string o, .string n, .int .i64 t, .int .i64 u] rfl (run_loadVar_row _ (w.heap.size) 25 25 _ (0, 0) _ hbk.out Tryz.underlying25 rfl (info_rec _ _ _ _ _ _ _ _))) rfl ?_
  exact ⟨rfl, HS9.out, HK9.out⟩
end Go.Proofs.YtagenkofoacajaaGreatDoor

namespace Go.Proofs.YtagenkofoacajaaGreatDoor
open Go.RowKit Vi Cm

theorem lstE_no {a b : ByteArray} (h : a ≠ b) : (a.toList == b.data.toList) = false := by
  rw [beq_eq_false_iff_ne, Lib.toList_data]
  exact fun e => h (ba_ext e)
def recV (a b k : Int) (x o n : ByteArray) (t u : Int) : Array Value := #[.int .i64 a, .int .i64 b, .int .i64 k, .string x, .string o, .string n, .int .i64 t, .int .i64 u]
def recZ : Array Value := #[.int .i64 0, .int .i64 0, .int .i64 0, .string ⟨#[]⟩, .string ⟨#[]⟩, .string ⟨#[]⟩, .int .i64 0, .int .i64 0]
set_option maxHeartbeats 4000000 in
set_option maxRecDepth 100000 in
theorem etake_yes (a b k : Int) (x o n : ByteArray) (t u : Int) (w : World) (hT : Tab w) (h : rok a b k x o n t u = true) :
    Calls Tryz.prog 56 #[.string (recS a b k x o n t u)] w fun e w' => e = .returned (.tuple #[.agg (recV a b k x o n t u), .int .i64 0]) ∧ Below w.heap.size w w' := by
  obtain ⟨f1, f2⟩ := rec_front h
  have hz := rec_size h
  have HT := Lib.hid hT
  have bd := rok_bd h
  have bz := bodyR_size h
  have HBR := Lib.hid (fun W : World => bare_any (recS a b k x o n t u) W (by omega))
  unfold bareV at HBR
  rw [f1, if_pos rfl, if_pos rfl, f2] at HBR
  have hsz := sealH_size (bodyR a b k x o n t u)
  have HOP := Lib.hid (fun (W : World) (g : Tab W) => open_any (sealH (bodyR a b k x o n t u)) W g (by omega))
  rw [opened_yesY _ (seal_is (bodyR a b k x o n t u)).1, (seal_is (bodyR a b k x o n t u)).2] at HOP
  have hfx := rec_fix h
  obtain ⟨q1, q2, q3, q4, q5, q6, q7, q8, h1, h2, h3, h4, h5, h6, h7, h8, h9⟩ := rec_reads h (bodyR a b k x o n t u) 1 (fun a' b' k' t' u' => bodyR_tail a' b' k' t' u') 4294967295 4095 2 12 32 32 524288 4294967296 (by omega) (by omega) (by omega) (by omega) (by omega) (by omega) (by omega) (by omega) (by omega) (by omega) (by omega) (by omega) (by omega) (by omega) (by omega) (by omega)
  have HFX := Lib.hid (fun (W : World) (B : Nat) (g : Sc W B true (bodyR a b k x o n t u) 0 0) => fixU W B (bodyR a b k x o n t u) 0 0 1 (by omega) (by omega) g)
  rw [hfx] at HFX
  have HRD := Lib.hid (fun (W : World) (B : Nat) (g : Sc W B true (bodyR a b k x o n t u) 1 0) => eread_any W B (bodyR a b k x o n t u) 1 q1 q2 q3 q4 q5 q6 q7 q8 0 0 0 0 0 0 0 0 0 a b k x o n t u (by omega) (by omega) g h1 h2 h3 h4 h5 h6 h7 h8)
  have l8 : q8 ≤ (bodyR a b k x o n t u).size := by
    have l1 := Rd.num_le (bodyR a b k x o n t u) 1 0 4294967295 (by omega); rw [h1] at l1
    have l2 := Rd.num_le (bodyR a b k x o n t u) q1 0 4095 l1; rw [h2] at l2
    have l3 := Rd.num_le (bodyR a b k x o n t u) q2 0 2 l2; rw [h3] at l3
    have l4 := Rd.text_le (bodyR a b k x o n t u) q3 0 12 l3; rw [h4] at l4
    have l5 := Rd.text_le (bodyR a b k x o n t u) q4 0 32 l4; rw [h5] at l5
    have l6 := Rd.text_le (bodyR a b k x o n t u) q5 0 32 l5; rw [h6] at l6
    have l7 := Rd.num_le (bodyR a b k x o n t u) q6 0 524288 l6; rw [h7] at l7
    have l8 := Rd.num_le (bodyR a b k x o n t u) q7 0 4294967296 l7; rw [h8] at l8
    exact l8
  have HEN := Lib.hid (fun (W : World) (B : Nat) (g : Sc W B true (bodyR a b k x o n t u) q8 0) => finU W B (bodyR a b k x o n t u) q8 0 (by omega) l8 g)
  rw [h9] at HEN
  have HCK := Lib.hid (fun W : World => rcheck_any a b k x o n t u W (by unfold maxLen; omega))
  rw [← errR_yes h] at HCK
  unfold recV
  generalize sealH (bodyR a b k x o n t u) = U at HBR HOP
  generalize recS a b k x o n t u = S at HBR
  generalize bodyR a b k x o n t u = X at HOP HFX HRD HEN
  clear f1 f2 hz bd bz hsz hfx h1 h2 h3 h4 h5 h6 h7 h8 h9 l8 h hT
  have HB1 := Lib.hid (Below.refl w.heap.size w)
  go_enter Tryz.func56, Tryz.ntmps56
  go_wp2_with fail
  have HF2 := Lib.hid (blk_new w (.cells #[.int .i64 0, .int .i64 0, .int .i64 0, .string ⟨#[]⟩, .string ⟨#[]⟩, .string ⟨#[]⟩, .int .i64 0, .int .i64 0] 25 (0, 0)))
  have HB3 := Lib.hid (HB1.out.alloc HB1.out.size (.cells #[.int .i64 0, .int .i64 0, .int .i64 0, .string ⟨#[]⟩, .string ⟨#[]⟩, .string ⟨#[]⟩, .int .i64 0, .int .i64 0] 25 (0, 0)))
  clear HB1
  refine (HBR.out (w.alloc (.cells #[.int .i64 0, .int .i64 0, .int .i64 0, .string ⟨#[]⟩, .string ⟨#[]⟩, .string ⟨#[]⟩, .int .i64 0, .int .i64 0] 25 (0, 0)))).mono ?_
  rintro e w1 ⟨rfl, hb1⟩
  have HF4 := Lib.hid (blk_below HF2.out hb1)
  have HB5 := Lib.hid (HB3.out.trans (hb1.mono HB3.out.size))
  clear hb1 HB3 HF2
  go_wp2_with fail
  refine (HOP.out w1 (HT.out.later HB5.out)).mono ?_
  rintro e w2 ⟨rfl, hb2⟩
  have HF6 := Lib.hid (blk_below HF4.out hb2)
  have HB7 := Lib.hid (HB5.out.trans (hb2.mono HB5.out.size))
  clear hb2 HB5 HF4
  go_wp2_with fail
  refine (new_any _ w2).mono ?_
  rintro e w3 ⟨rfl, hs, hb⟩
  obtain ⟨B, hBe⟩ : ∃ B, B = w2.heap.size := ⟨_, rfl⟩
  rw [← hBe] at hs
  have HF8 := Lib.hid (blk_below HF6.out hb)
  have hk9 : w.heap.size < B := by rw [hBe]; exact lt_of_block HF6.out
  have HB10 := Lib.hid (HB7.out.trans (hb.mono HB7.out.size))
  have hBw : w.heap.size ≤ B := by rw [hBe]; exact HB7.out.size
  have HBE := Lib.hid hBe
  have HS11 := Lib.hid hs
  clear hb hs hBe HB7 HF6
  rw [← HBE.out]
  go_wp2_with fail
  refine (HFX.out w3 _ HS11.out).mono ?_
  rintro e w4 ⟨rfl, hs, hk⟩
  have HF12 := Lib.hid (blk_but HF8.out hk (by omega))
  have HB13 := Lib.hid (But.below HB10.out hk hBw HB10.out.size)
  have HS14 := Lib.hid hs
  clear hs hk HB10 HS11 HF8
  go_wp2_with fail
  refine (HRD.out w4 _ HS14.out).mono ?_
  rintro e w5 ⟨rfl, hs, hk⟩
  have HF15 := Lib.hid (blk_but HF12.out hk (by omega))
  have HB16 := Lib.hid (But.below HB13.out hk hBw HB13.out.size)
  have HS17 := Lib.hid hs
  clear hs hk HB13 HS14 HF12
  have hk18 : B < w5.heap.size := HS17.out.lt
  have HF19 := Lib.hid (blk_alloc HF15.out (.cells #[.int .i64 a, .int .i64 b, .int .i64 k, .string x, .string o, .string n, .int .i64 t, .int .i64 u] 25 (0, 0)))
  have HF20 := Lib.hid (blk_new w5 (.cells #[.int .i64 a, .int .i64 b, .int .i64 k, .string x, .string o, .string n, .int .i64 t, .int .i64 u] 25 (0, 0)))
  have HB21 := Lib.hid (HB16.out.alloc HB16.out.size (.cells #[.int .i64 a, .int .i64 b, .int .i64 k, .string x, .string o, .string n, .int .i64 t, .int .i64 u] 25 (0, 0)))
  clear HB16
  have HS22 := Lib.hid (HS17.out.alloc (.cells #[.int .i64 a, .int .i64 b, .int .i64 k, .string x, .string o, .string n, .int .i64 t, .int .i64 u] 25 (0, 0)))
  clear HS17
  go_wp2_with fail
  refine (HEN.out (w5.alloc (.cells #[.int .i64 a, .int .i64 b, .int .i64 k, .string x, .string o, .string n, .int .i64 t, .int .i64 u] 25 (0, 0))) _ HS22.out).mono ?_
  rintro e w6 ⟨rfl, hs, hk⟩
  have HF23 := Lib.hid (blk_but HF19.out hk (by omega))
  have HF24 := Lib.hid (blk_but HF20.out hk (by omega))
  have HB25 := Lib.hid (But.below HB21.out hk hBw HB21.out.size)
  have HS26 := Lib.hid hs
  clear hs hk HB21 HS22 HF19 HF15 HF20
  have hc27 : w6.cell? ⟨w5.heap.size, 0, none⟩ = some (.int .i64 a) := by rw [cell_of_row _ _ _ _ _ _ HF24.out]; rfl
  have hc28 : w6.cell? ⟨w5.heap.size, 1, none⟩ = some (.int .i64 b) := by rw [cell_of_row _ _ _ _ _ _ HF24.out]; rfl
  have hc29 : w6.cell? ⟨w5.heap.size, 2, none⟩ = some (.int .i64 k) := by rw [cell_of_row _ _ _ _ _ _ HF24.out]; rfl
  have hc30 : w6.cell? ⟨w5.heap.size, 3, none⟩ = some (.string x) := by rw [cell_of_row _ _ _ _ _ _ HF24.out]; rfl
  have hc31 : w6.cell? ⟨w5.heap.size, 4, none⟩ = some (.string o) := by rw [cell_of_row _ _ _ _ _ _ HF24.out]; rfl
  have hc32 : w6.cell? ⟨w5.heap.size, 5, none⟩ = some (.string n) := by rw [cell_of_row _ _ _ _ _ _ HF24.out]; rfl
  have hc33 : w6.cell? ⟨w5.heap.size, 6, none⟩ = some (.int .i64 t) := by rw [cell_of_row _ _ _ _ _ _ HF24.out]; rfl
  have hc34 : w6.cell? ⟨w5.heap.size, 7, none⟩ = some (.int .i64 u) := by rw [cell_of_row _ _ _ _ _ _ HF24.out]; rfl
  go_wp2_with fail
  refine (HCK.out w6).mono ?_
  rintro e w7 ⟨rfl, hb7⟩
  clear hc27 hc28 hc29 hc30 hc31 hc32 hc33 hc34
  have HF35 := Lib.hid (blk_below HF23.out hb7)
  have HF36 := Lib.hid (blk_below HF24.out hb7)
  have HB37 := Lib.hid (HB25.out.trans (hb7.mono HB25.out.size))
  have HS38 := Lib.hid (HS26.out.kept (hb7.block B HS26.out.lt))
  clear hb7 HB25 HS26 HF23 HF24
  have hc39 : w7.cell? ⟨w5.heap.size, 0, none⟩ = some (.int .i64 a) := by rw [cell_of_row _ _ _ _ _ _ HF36.out]; rfl
  have hc40 : w7.cell? ⟨w5.heap.size, 1, none⟩ = some (.int .i64 b) := by rw [cell_of_row _ _ _ _ _ _ HF36.out]; rfl
  have hc41 : w7.cell? ⟨w5.heap.size, 2, none⟩ = some (.int .i64 k) := by rw [cell_of_row _ _ _ _ _ _ HF36.out]; rfl
  have hc42 : w7.cell? ⟨w5.heap.size, 3, none⟩ = some (.string x) := by rw [cell_of_row _ _ _ _ _ _ HF36.out]; rfl
  have hc43 : w7.cell? ⟨w5.heap.size, 4, none⟩ = some (.string o) := by rw [cell_of_row _ _ _ _ _ _ HF36.out]; rfl
  have hc44 : w7.cell? ⟨w5.heap.size, 5, none⟩ = some (.string n) := by rw [cell_of_row _ _ _ _ _ _ HF36.out]; rfl
  have hc45 : w7.cell? ⟨w5.heap.size, 6, none⟩ = some (.int .i64 t) := by rw [cell_of_row _ _ _ _ _ _ HF36.out]; rfl
  have hc46 : w7.cell? ⟨w5.heap.size, 7, none⟩ = some (.int .i64 u) := by rw [cell_of_row _ _ _ _ _ _ HF36.out]; rfl
  go_wp2_with (first
    | refine wpList_store_rowY rfl 25 (.tmp 2) (.tmp 44) rfl (w.heap.size) #[.int .i64 a, .int .i64 b, .int .i64 k, .string x, .string o, .string n, .int .i64 t, .int .i64 u] rfl rfl 25 _ HF35.out (info_rec _ _ _ _ _ _ _ _) rfl (one_rec _ _ _ _ _ _ _ _) w.heap.size w HB37.out (by omega) ?_
    | refine wpList_load_row rfl 25 (.tmp 9) rfl (w5.heap.size) rfl 25 #[.int .i64 a, .int .i64 b, .int .i64 k, .string x, .string o, .string n, .int .i64 t, .int .i64 u] (0, 0) _ HF36.out Tryz.underlying25 rfl (info_rec _ _ _ _ _ _ _ _) ?_)
  intro W8 hbk hoth hbel _
  clear hc39 hc40 hc41 hc42 hc43 hc44 hc45 hc46
  have HF47 := Lib.hid hbk.out
  have HF48 := Lib.hid (blk_oth HF36.out hoth.out (by omega))
  have HB49 := Lib.hid hbel.out
  have HS50 := Lib.hid (HS38.out.kept (hoth.out B (by omega)))
  clear hbk hoth hbel HB37 HS38 HF35 HF36
  go_wp2_with fail
  refine bodyPost_ret (results_ctY rfl _ _ (w.heap.size) #[.int .i64 a, .int .i64 b, .int .i64 k, .string x, .string o, .string n, .int .i64 t, .int .i64 u] rfl (run_loadVar_row _ (w.heap.size) 25 25 _ (0, 0) _ HF47.out Tryz.underlying25 rfl (info_rec _ _ _ _ _ _ _ _))) rfl ?_
  exact ⟨rfl, HB49.out⟩
set_option maxHeartbeats 8000000 in
set_option maxRecDepth 100000 in
theorem etake_no (S : ByteArray) (w : World) (hT : Tab w) (hS : S.size ≤ 1000) (hno : ¬ IsRec S) :
    Calls Tryz.prog 56 #[.string S] w fun e w' => e = .returned (.tuple #[.agg recZ, .int .i64 3]) ∧ Below w.heap.size w w' := by
  have HT := Lib.hid hT
  obtain ⟨U, hU⟩ : ∃ U, (if bareB S = true then bareT S else ⟨#[]⟩) = U := ⟨_, rfl⟩
  obtain ⟨z, hz⟩ : ∃ z : Int, (if bareB S = true then 0 else 3) = z := ⟨_, rfl⟩
  have HBR := Lib.hid (fun W : World => bare_any S W hS)
  unfold bareV at HBR
  rw [hU, hz] at HBR
  have hUs : U.size ≤ 1000 := by
    rw [← hU]
    split
    · rename_i h; have := (bare_of S h).2.1; omega
    · exact Nat.zero_le _
  have HOP := Lib.hid (fun (W : World) (g : Tab W) => open_any U W g (by omega))
  unfold recZ
  cases hse : sealed U with
  | false =>
    rw [opened_noY _ hse] at HOP
    clear hU hz hUs hse hno hT
    have HB1 := Lib.hid (Below.refl w.heap.size w)
    go_enter Tryz.func56, Tryz.ntmps56
    go_wp2_with fail
    have HF2 := Lib.hid (blk_new w (.cells #[.int .i64 0, .int .i64 0, .int .i64 0, .string ⟨#[]⟩, .string ⟨#[]⟩, .string ⟨#[]⟩, .int .i64 0, .int .i64 0] 25 (0, 0)))
    have HB3 := Lib.hid (HB1.out.alloc HB1.out.size (.cells #[.int .i64 0, .int .i64 0, .int .i64 0, .string ⟨#[]⟩, .string ⟨#[]⟩, .string ⟨#[]⟩, .int .i64 0, .int .i64 0] 25 (0, 0)))
    clear HB1
    refine (HBR.out (w.alloc (.cells #[.int .i64 0, .int .i64 0, .int .i64 0, .string ⟨#[]⟩, .string ⟨#[]⟩, .string ⟨#[]⟩, .int .i64 0, .int .i64 0] 25 (0, 0)))).mono ?_
    rintro e w1 ⟨rfl, hb1⟩
    have HF4 := Lib.hid (blk_below HF2.out hb1)
    have HB5 := Lib.hid (HB3.out.trans (hb1.mono HB3.out.size))
    clear hb1 HB3 HF2
    go_wp2_with fail
    refine (HOP.out w1 (HT.out.later HB5.out)).mono ?_
    rintro e w2 ⟨rfl, hb2⟩
    have HF6 := Lib.hid (blk_below HF4.out hb2)
    have HB7 := Lib.hid (HB5.out.trans (hb2.mono HB5.out.size))
    clear hb2 HB5 HF4
    go_wp2_with fail
    refine (new_any _ w2).mono ?_
    rintro e w3 ⟨rfl, hs, hb⟩
    obtain ⟨B, hBe⟩ : ∃ B, B = w2.heap.size := ⟨_, rfl⟩
    rw [← hBe] at hs
    have HF8 := Lib.hid (blk_below HF6.out hb)
    have hk9 : w.heap.size < B := by rw [hBe]; exact lt_of_block HF6.out
    have HB10 := Lib.hid (HB7.out.trans (hb.mono HB7.out.size))
    have hBw : w.heap.size ≤ B := by rw [hBe]; exact HB7.out.size
    have HBE := Lib.hid hBe
    have HS11 := Lib.hid hs
    clear hb hs hBe HB7 HF6
    rw [← HBE.out]
    go_wp2_with (first
      | refine wpList_store_rowY rfl 25 (.tmp 2) (.tmp 29) rfl (w.heap.size) #[.int .i64 0, .int .i64 0, .int .i64 0, .string ⟨#[]⟩, .string ⟨#[]⟩, .string ⟨#[]⟩, .int .i64 0, .int .i64 0] rfl rfl 25 _ HF8.out (info_rec _ _ _ _ _ _ _ _) rfl (one_rec _ _ _ _ _ _ _ _) w.heap.size w HB10.out (by omega) ?_)
    intro W4 hbk hoth hbel _
    have HF12 := Lib.hid hbk.out
    have HB13 := Lib.hid hbel.out
    have HS14 := Lib.hid (HS11.out.kept (hoth.out B (by omega)))
    clear hbk hoth hbel HB10 HS11 HF8
    go_wp2_with fail
    refine bodyPost_ret (results_ctY rfl _ _ (w.heap.size) #[.int .i64 0, .int .i64 0, .int .i64 0, .string ⟨#[]⟩, .string ⟨#[]⟩, .string ⟨#[]⟩, .int .i64 0, .int .i64 0] rfl (run_loadVar_row _ (w.heap.size) 25 25 _ (0, 0) _ HF12.out Tryz.underlying25 rfl (info_rec _ _ _ _ _ _ _ _))) rfl ?_
    exact ⟨rfl, HB13.out⟩
  | true =>
    rw [opened_yesY _ hse] at HOP
    have hb : bareB S = true := by
      cases hb : bareB S with
      | true => rfl
      | false =>
        rw [hb, if_neg (by simp)] at hU
        rw [← hU] at hse
        exact absurd hse (by decide +kernel)
    rw [hb, if_pos rfl] at hU
    obtain ⟨X, hX⟩ : ∃ X, U.extract 0 (U.size - 4) = X := ⟨_, rfl⟩
    rw [hX] at HOP
    have hXs : X.size ≤ 1000 := by rw [← hX, ByteArray.size_extract]; omega
    obtain ⟨f, q0, e0, hf⟩ : ∃ f q e, Rd.fix X 0 0 1 = (f, q, e) := ⟨_, _, _, rfl⟩
    have HFX := Lib.hid (fun (W : World) (B : Nat) (g : Sc W B true X 0 0) => fixU W B X 0 0 1 (by omega) (by omega) g)
    rw [hf] at HFX
    dsimp only at HFX
    have l0 : q0 ≤ X.size := by have := Rd.fix_le X 0 0 1 (Nat.zero_le _); rw [hf] at this; exact this
    by_cases hfs : f = ⟨#[82]⟩
    · subst hfs
      obtain ⟨a, q1, e1, h1⟩ : ∃ a b c, Rd.num X q0 e0 4294967295 = (a, b, c) := ⟨_, _, _, rfl⟩
      have l1 : q1 ≤ X.size := by have := Rd.num_le X q0 e0 4294967295 l0; rw [h1] at this; exact this
      obtain ⟨b, q2, e2, h2⟩ : ∃ a b c, Rd.num X q1 e1 4095 = (a, b, c) := ⟨_, _, _, rfl⟩
      have l2 : q2 ≤ X.size := by have := Rd.num_le X q1 e1 4095 l1; rw [h2] at this; exact this
      obtain ⟨k, q3, e3, h3⟩ : ∃ a b c, Rd.num X q2 e2 2 = (a, b, c) := ⟨_, _, _, rfl⟩
      have l3 : q3 ≤ X.size := by have := Rd.num_le X q2 e2 2 l2; rw [h3] at this; exact this
      obtain ⟨x, q4, e4, h4⟩ : ∃ a b c, Rd.text X q3 e3 12 = (a, b, c) := ⟨_, _, _, rfl⟩
      have l4 : q4 ≤ X.size := by have := Rd.text_le X q3 e3 12 l3; rw [h4] at this; exact this
      obtain ⟨o, q5, e5, h5⟩ : ∃ a b c, Rd.text X q4 e4 32 = (a, b, c) := ⟨_, _, _, rfl⟩
      have l5 : q5 ≤ X.size := by have := Rd.text_le X q4 e4 32 l4; rw [h5] at this; exact this
      obtain ⟨n, q6, e6, h6⟩ : ∃ a b c, Rd.text X q5 e5 32 = (a, b, c) := ⟨_, _, _, rfl⟩
      have l6 : q6 ≤ X.size := by have := Rd.text_le X q5 e5 32 l5; rw [h6] at this; exact this
      obtain ⟨t, q7, e7, h7⟩ : ∃ a b c, Rd.num X q6 e6 524288 = (a, b, c) := ⟨_, _, _, rfl⟩
      have l7 : q7 ≤ X.size := by have := Rd.num_le X q6 e6 524288 l6; rw [h7] at this; exact this
      obtain ⟨u, q8, e8, h8⟩ : ∃ a b c, Rd.num X q7 e7 4294967296 = (a, b, c) := ⟨_, _, _, rfl⟩
      have l8 : q8 ≤ X.size := by have := Rd.num_le X q7 e7 4294967296 l7; rw [h8] at this; exact this
      have HRD := Lib.hid (fun (W : World) (B : Nat) (g : Sc W B true X q0 e0) => eread_any W B X q0 q1 q2 q3 q4 q5 q6 q7 q8 e0 e1 e2 e3 e4 e5 e6 e7 e8 a b k x o n t u (by omega) l0 g h1 h2 h3 h4 h5 h6 h7 h8)
      have HEN := Lib.hid (fun (W : World) (B : Nat) (g : Sc W B true X q8 e8) => finU W B X q8 e8 (by omega) l8 g)
      have hxs : x.size ≤ maxLen := by
        have := Rd.fix_size X (Rd.num X q3 e3 12).2.1 (Rd.num X q3 e3 12).2.2 (Rd.num X q3 e3 12).1
        have e : (Rd.text X q3 e3 12).1.size ≤ X.size := this
        rw [h4] at e
        dsimp only at e
        unfold maxLen; omega
      have HCK := Lib.hid (fun W : World => rcheck_any a b k x o n t u W hxs)
      have hrec := fun hfin hr => hno ⟨a, b, k, x, o, n, t, u, hr, rec_of S X q0 q1 q2 q3 q4 q5 q6 q7 q8 e0 e1 e2 e3 e4 e5 e6 e7 e8 a b k x o n t u hb (by rw [hU]; exact hse) (by rw [hU]; exact hX) hf h1 h2 h3 h4 h5 h6 h7 h8 hfin⟩
      obtain ⟨y, hy⟩ : ∃ y, Rd.fin X q8 e8 = y := ⟨_, rfl⟩
      rw [hy] at HEN hrec
      by_cases hy0 : y = 0
      · subst hy0
        have hr : rok a b k x o n t u = false := by
          cases hr : rok a b k x o n t u with
          | false => rfl
          | true => exact (hrec rfl hr).elim
        rw [← errR_no hr] at HCK
        clear hU hz hUs hse hno hT hb hX hXs hf l0 h1 h2 h3 h4 h5 h6 h7 h8 l1 l2 l3 l4 l5 l6 l7 l8 hxs hrec hr hy
        have HB1 := Lib.hid (Below.refl w.heap.size w)
        go_enter Tryz.func56, Tryz.ntmps56
        go_wp2_with fail
        have HF2 := Lib.hid (blk_new w (.cells #[.int .i64 0, .int .i64 0, .int .i64 0, .string ⟨#[]⟩, .string ⟨#[]⟩, .string ⟨#[]⟩, .int .i64 0, .int .i64 0] 25 (0, 0)))
        have HB3 := Lib.hid (HB1.out.alloc HB1.out.size (.cells #[.int .i64 0, .int .i64 0, .int .i64 0, .string ⟨#[]⟩, .string ⟨#[]⟩, .string ⟨#[]⟩, .int .i64 0, .int .i64 0] 25 (0, 0)))
        clear HB1
        refine (HBR.out (w.alloc (.cells #[.int .i64 0, .int .i64 0, .int .i64 0, .string ⟨#[]⟩, .string ⟨#[]⟩, .string ⟨#[]⟩, .int .i64 0, .int .i64 0] 25 (0, 0)))).mono ?_
        rintro e w1 ⟨rfl, hb1⟩
        have HF4 := Lib.hid (blk_below HF2.out hb1)
        have HB5 := Lib.hid (HB3.out.trans (hb1.mono HB3.out.size))
        clear hb1 HB3 HF2
        go_wp2_with fail
        refine (HOP.out w1 (HT.out.later HB5.out)).mono ?_
        rintro e w2 ⟨rfl, hb2⟩
        have HF6 := Lib.hid (blk_below HF4.out hb2)
        have HB7 := Lib.hid (HB5.out.trans (hb2.mono HB5.out.size))
        clear hb2 HB5 HF4
        go_wp2_with fail
        refine (new_any _ w2).mono ?_
        rintro e w3 ⟨rfl, hs, hb⟩
        obtain ⟨B, hBe⟩ : ∃ B, B = w2.heap.size := ⟨_, rfl⟩
        rw [← hBe] at hs
        have HF8 := Lib.hid (blk_below HF6.out hb)
        have hk9 : w.heap.size < B := by rw [hBe]; exact lt_of_block HF6.out
        have HB10 := Lib.hid (HB7.out.trans (hb.mono HB7.out.size))
        have hBw : w.heap.size ≤ B := by rw [hBe]; exact HB7.out.size
        have HBE := Lib.hid hBe
        have HS11 := Lib.hid hs
        clear hb hs hBe HB7 HF6
        rw [← HBE.out]
        go_wp2_with fail
        refine (HFX.out w3 _ HS11.out).mono ?_
        rintro e w4 ⟨rfl, hs, hk⟩
        have HF12 := Lib.hid (blk_but HF8.out hk (by omega))
        have HB13 := Lib.hid (But.below HB10.out hk hBw HB10.out.size)
        have HS14 := Lib.hid hs
        clear hs hk HB10 HS11 HF8
        go_wp2_with fail
        refine (HRD.out w4 _ HS14.out).mono ?_
        rintro e w5 ⟨rfl, hs, hk⟩
        have HF15 := Lib.hid (blk_but HF12.out hk (by omega))
        have HB16 := Lib.hid (But.below HB13.out hk hBw HB13.out.size)
        have HS17 := Lib.hid hs
        clear hs hk HB13 HS14 HF12
        have hk18 : B < w5.heap.size := HS17.out.lt
        have HF19 := Lib.hid (blk_alloc HF15.out (.cells #[.int .i64 a, .int .i64 b, .int .i64 k, .string x, .string o, .string n, .int .i64 t, .int .i64 u] 25 (0, 0)))
        have HF20 := Lib.hid (blk_new w5 (.cells #[.int .i64 a, .int .i64 b, .int .i64 k, .string x, .string o, .string n, .int .i64 t, .int .i64 u] 25 (0, 0)))
        have HB21 := Lib.hid (HB16.out.alloc HB16.out.size (.cells #[.int .i64 a, .int .i64 b, .int .i64 k, .string x, .string o, .string n, .int .i64 t, .int .i64 u] 25 (0, 0)))
        clear HB16
        have HS22 := Lib.hid (HS17.out.alloc (.cells #[.int .i64 a, .int .i64 b, .int .i64 k, .string x, .string o, .string n, .int .i64 t, .int .i64 u] 25 (0, 0)))
        clear HS17
        go_wp2_with fail
        refine (HEN.out (w5.alloc (.cells #[.int .i64 a, .int .i64 b, .int .i64 k, .string x, .string o, .string n, .int .i64 t, .int .i64 u] 25 (0, 0))) _ HS22.out).mono ?_
        rintro e w6 ⟨rfl, hs, hk⟩
        have HF23 := Lib.hid (blk_but HF19.out hk (by omega))
        have HF24 := Lib.hid (blk_but HF20.out hk (by omega))
        have HB25 := Lib.hid (But.below HB21.out hk hBw HB21.out.size)
        have HS26 := Lib.hid hs
        clear hs hk HB21 HS22 HF19 HF15 HF20
        have hc27 : w6.cell? ⟨w5.heap.size, 0, none⟩ = some (.int .i64 a) := by rw [cell_of_row _ _ _ _ _ _ HF24.out]; rfl
        have hc28 : w6.cell? ⟨w5.heap.size, 1, none⟩ = some (.int .i64 b) := by rw [cell_of_row _ _ _ _ _ _ HF24.out]; rfl
        have hc29 : w6.cell? ⟨w5.heap.size, 2, none⟩ = some (.int .i64 k) := by rw [cell_of_row _ _ _ _ _ _ HF24.out]; rfl
        have hc30 : w6.cell? ⟨w5.heap.size, 3, none⟩ = some (.string x) := by rw [cell_of_row _ _ _ _ _ _ HF24.out]; rfl
        have hc31 : w6.cell? ⟨w5.heap.size, 4, none⟩ = some (.string o) := by rw [cell_of_row _ _ _ _ _ _ HF24.out]; rfl
        have hc32 : w6.cell? ⟨w5.heap.size, 5, none⟩ = some (.string n) := by rw [cell_of_row _ _ _ _ _ _ HF24.out]; rfl
        have hc33 : w6.cell? ⟨w5.heap.size, 6, none⟩ = some (.int .i64 t) := by rw [cell_of_row _ _ _ _ _ _ HF24.out]; rfl
        have hc34 : w6.cell? ⟨w5.heap.size, 7, none⟩ = some (.int .i64 u) := by rw [cell_of_row _ _ _ _ _ _ HF24.out]; rfl
        go_wp2_with fail
        refine (HCK.out w6).mono ?_
        rintro e w7 ⟨rfl, hb7⟩
        clear hc27 hc28 hc29 hc30 hc31 hc32 hc33 hc34
        have HF35 := Lib.hid (blk_below HF23.out hb7)
        have HF36 := Lib.hid (blk_below HF24.out hb7)
        have HB37 := Lib.hid (HB25.out.trans (hb7.mono HB25.out.size))
        have HS38 := Lib.hid (HS26.out.kept (hb7.block B HS26.out.lt))
        clear hb7 HB25 HS26 HF23 HF24
        go_wp2_with (first
          | refine wpList_store_rowY rfl 25 (.tmp 2) (.tmp 43) rfl (w.heap.size) #[.int .i64 0, .int .i64 0, .int .i64 0, .string ⟨#[]⟩, .string ⟨#[]⟩, .string ⟨#[]⟩, .int .i64 0, .int .i64 0] rfl rfl 25 _ HF35.out (info_rec _ _ _ _ _ _ _ _) rfl (one_rec _ _ _ _ _ _ _ _) w.heap.size w HB37.out (by omega) ?_)
        intro W8 hbk hoth hbel _
        have HF39 := Lib.hid hbk.out
        have HF40 := Lib.hid (blk_oth HF36.out hoth.out (by omega))
        have HB41 := Lib.hid hbel.out
        have HS42 := Lib.hid (HS38.out.kept (hoth.out B (by omega)))
        clear hbk hoth hbel HB37 HS38 HF35 HF36
        go_wp2_with fail
        refine bodyPost_ret (results_ctY rfl _ _ (w.heap.size) #[.int .i64 0, .int .i64 0, .int .i64 0, .string ⟨#[]⟩, .string ⟨#[]⟩, .string ⟨#[]⟩, .int .i64 0, .int .i64 0] rfl (run_loadVar_row _ (w.heap.size) 25 25 _ (0, 0) _ HF39.out Tryz.underlying25 rfl (info_rec _ _ _ _ _ _ _ _))) rfl ?_
        exact ⟨rfl, HB41.out⟩
      · have hn1 : (y == 0) = false := by rw [beq_eq_false_iff_ne]; exact hy0
        have hn2 : (y != 0) = true := by rw [bne, hn1]; rfl
        clear hU hz hUs hse hno hT hb hX hXs hf l0 h1 h2 h3 h4 h5 h6 h7 h8 l1 l2 l3 l4 l5 l6 l7 l8 hxs hrec hy hy0
        have HB1 := Lib.hid (Below.refl w.heap.size w)
        go_enter Tryz.func56, Tryz.ntmps56
        go_wp2_with fail
        have HF2 := Lib.hid (blk_new w (.cells #[.int .i64 0, .int .i64 0, .int .i64 0, .string ⟨#[]⟩, .string ⟨#[]⟩, .string ⟨#[]⟩, .int .i64 0, .int .i64 0] 25 (0, 0)))
        have HB3 := Lib.hid (HB1.out.alloc HB1.out.size (.cells #[.int .i64 0, .int .i64 0, .int .i64 0, .string ⟨#[]⟩, .string ⟨#[]⟩, .string ⟨#[]⟩, .int .i64 0, .int .i64 0] 25 (0, 0)))
        clear HB1
        refine (HBR.out (w.alloc (.cells #[.int .i64 0, .int .i64 0, .int .i64 0, .string ⟨#[]⟩, .string ⟨#[]⟩, .string ⟨#[]⟩, .int .i64 0, .int .i64 0] 25 (0, 0)))).mono ?_
        rintro e w1 ⟨rfl, hb1⟩
        have HF4 := Lib.hid (blk_below HF2.out hb1)
        have HB5 := Lib.hid (HB3.out.trans (hb1.mono HB3.out.size))
        clear hb1 HB3 HF2
        go_wp2_with fail
        refine (HOP.out w1 (HT.out.later HB5.out)).mono ?_
        rintro e w2 ⟨rfl, hb2⟩
        have HF6 := Lib.hid (blk_below HF4.out hb2)
        have HB7 := Lib.hid (HB5.out.trans (hb2.mono HB5.out.size))
        clear hb2 HB5 HF4
        go_wp2_with fail
        refine (new_any _ w2).mono ?_
        rintro e w3 ⟨rfl, hs, hb⟩
        obtain ⟨B, hBe⟩ : ∃ B, B = w2.heap.size := ⟨_, rfl⟩
        rw [← hBe] at hs
        have HF8 := Lib.hid (blk_below HF6.out hb)
        have hk9 : w.heap.size < B := by rw [hBe]; exact lt_of_block HF6.out
        have HB10 := Lib.hid (HB7.out.trans (hb.mono HB7.out.size))
        have hBw : w.heap.size ≤ B := by rw [hBe]; exact HB7.out.size
        have HBE := Lib.hid hBe
        have HS11 := Lib.hid hs
        clear hb hs hBe HB7 HF6
        rw [← HBE.out]
        go_wp2_with fail
        refine (HFX.out w3 _ HS11.out).mono ?_
        rintro e w4 ⟨rfl, hs, hk⟩
        have HF12 := Lib.hid (blk_but HF8.out hk (by omega))
        have HB13 := Lib.hid (But.below HB10.out hk hBw HB10.out.size)
        have HS14 := Lib.hid hs
        clear hs hk HB10 HS11 HF8
        go_wp2_with fail
        refine (HRD.out w4 _ HS14.out).mono ?_
        rintro e w5 ⟨rfl, hs, hk⟩
        have HF15 := Lib.hid (blk_but HF12.out hk (by omega))
        have HB16 := Lib.hid (But.below HB13.out hk hBw HB13.out.size)
        have HS17 := Lib.hid hs
        clear hs hk HB13 HS14 HF12
        have hk18 : B < w5.heap.size := HS17.out.lt
        have HF19 := Lib.hid (blk_alloc HF15.out (.cells #[.int .i64 a, .int .i64 b, .int .i64 k, .string x, .string o, .string n, .int .i64 t, .int .i64 u] 25 (0, 0)))
        have HF20 := Lib.hid (blk_new w5 (.cells #[.int .i64 a, .int .i64 b, .int .i64 k, .string x, .string o, .string n, .int .i64 t, .int .i64 u] 25 (0, 0)))
        have HB21 := Lib.hid (HB16.out.alloc HB16.out.size (.cells #[.int .i64 a, .int .i64 b, .int .i64 k, .string x, .string o, .string n, .int .i64 t, .int .i64 u] 25 (0, 0)))
        clear HB16
        have HS22 := Lib.hid (HS17.out.alloc (.cells #[.int .i64 a, .int .i64 b, .int .i64 k, .string x, .string o, .string n, .int .i64 t, .int .i64 u] 25 (0, 0)))
        clear HS17
        go_wp2_with fail
        refine (HEN.out (w5.alloc (.cells #[.int .i64 a, .int .i64 b, .int .i64 k, .string x, .string o, .string n, .int .i64 t, .int .i64 u] 25 (0, 0))) _ HS22.out).mono ?_
        rintro e w6 ⟨rfl, hs, hk⟩
        have HF23 := Lib.hid (blk_but HF19.out hk (by omega))
        have HF24 := Lib.hid (blk_but HF20.out hk (by omega))
        have HB25 := Lib.hid (But.below HB21.out hk hBw HB21.out.size)
        have HS26 := Lib.hid hs
        clear hs hk HB21 HS22 HF19 HF15 HF20
        go_wp2_with (first
          | refine wpList_store_rowY rfl 25 (.tmp 2) (.tmp 43) rfl (w.heap.size) #[.int .i64 0, .int .i64 0, .int .i64 0, .string ⟨#[]⟩, .string ⟨#[]⟩, .string ⟨#[]⟩, .int .i64 0, .int .i64 0] rfl rfl 25 _ HF23.out (info_rec _ _ _ _ _ _ _ _) rfl (one_rec _ _ _ _ _ _ _ _) w.heap.size w HB25.out (by omega) ?_)
        intro W7 hbk hoth hbel _
        have HF27 := Lib.hid hbk.out
        have HF28 := Lib.hid (blk_oth HF24.out hoth.out (by omega))
        have HB29 := Lib.hid hbel.out
        have HS30 := Lib.hid (HS26.out.kept (hoth.out B (by omega)))
        clear hbk hoth hbel HB25 HS26 HF23 HF24
        go_wp2_with fail
        refine bodyPost_ret (results_ctY rfl _ _ (w.heap.size) #[.int .i64 0, .int .i64 0, .int .i64 0, .string ⟨#[]⟩, .string ⟨#[]⟩, .string ⟨#[]⟩, .int .i64 0, .int .i64 0] rfl (run_loadVar_row _ (w.heap.size) 25 25 _ (0, 0) _ HF27.out Tryz.underlying25 rfl (info_rec _ _ _ _ _ _ _ _))) rfl ?_
        exact ⟨rfl, HB29.out⟩
    · have hn1 : (f.toList == [82]) = false := lstE_no hfs
      have hn2 : (f.toList != [82]) = true := by rw [bne, hn1]; rfl
      clear hU hz hUs hse hno hT hb hX hXs hf l0 hfs
      have HB1 := Lib.hid (Below.refl w.heap.size w)
      go_enter Tryz.func56, Tryz.ntmps56
      go_wp2_with fail
      have HF2 := Lib.hid (blk_new w (.cells #[.int .i64 0, .int .i64 0, .int .i64 0, .string ⟨#[]⟩, .string ⟨#[]⟩, .string ⟨#[]⟩, .int .i64 0, .int .i64 0] 25 (0, 0)))
      have HB3 := Lib.hid (HB1.out.alloc HB1.out.size (.cells #[.int .i64 0, .int .i64 0, .int .i64 0, .string ⟨#[]⟩, .string ⟨#[]⟩, .string ⟨#[]⟩, .int .i64 0, .int .i64 0] 25 (0, 0)))
      clear HB1
      refine (HBR.out (w.alloc (.cells #[.int .i64 0, .int .i64 0, .int .i64 0, .string ⟨#[]⟩, .string ⟨#[]⟩, .string ⟨#[]⟩, .int .i64 0, .int .i64 0] 25 (0, 0)))).mono ?_
      rintro e w1 ⟨rfl, hb1⟩
      have HF4 := Lib.hid (blk_below HF2.out hb1)
      have HB5 := Lib.hid (HB3.out.trans (hb1.mono HB3.out.size))
      clear hb1 HB3 HF2
      go_wp2_with fail
      refine (HOP.out w1 (HT.out.later HB5.out)).mono ?_
      rintro e w2 ⟨rfl, hb2⟩
      have HF6 := Lib.hid (blk_below HF4.out hb2)
      have HB7 := Lib.hid (HB5.out.trans (hb2.mono HB5.out.size))
      clear hb2 HB5 HF4
      go_wp2_with fail
      refine (new_any _ w2).mono ?_
      rintro e w3 ⟨rfl, hs, hb⟩
      obtain ⟨B, hBe⟩ : ∃ B, B = w2.heap.size := ⟨_, rfl⟩
      rw [← hBe] at hs
      have HF8 := Lib.hid (blk_below HF6.out hb)
      have hk9 : w.heap.size < B := by rw [hBe]; exact lt_of_block HF6.out
      have HB10 := Lib.hid (HB7.out.trans (hb.mono HB7.out.size))
      have hBw : w.heap.size ≤ B := by rw [hBe]; exact HB7.out.size
      have HBE := Lib.hid hBe
      have HS11 := Lib.hid hs
      clear hb hs hBe HB7 HF6
      rw [← HBE.out]
      go_wp2_with fail
      refine (HFX.out w3 _ HS11.out).mono ?_
      rintro e w4 ⟨rfl, hs, hk⟩
      have HF12 := Lib.hid (blk_but HF8.out hk (by omega))
      have HB13 := Lib.hid (But.below HB10.out hk hBw HB10.out.size)
      have HS14 := Lib.hid hs
      clear hs hk HB10 HS11 HF8
      go_wp2_with (first
        | refine wpList_store_rowY rfl 25 (.tmp 2) (.tmp 29) rfl (w.heap.size) #[.int .i64 0, .int .i64 0, .int .i64 0, .string ⟨#[]⟩, .string ⟨#[]⟩, .string ⟨#[]⟩, .int .i64 0, .int .i64 0] rfl rfl 25 _ HF12.out (info_rec _ _ _ _ _ _ _ _) rfl (one_rec _ _ _ _ _ _ _ _) w.heap.size w HB13.out (by omega) ?_)
      intro W5 hbk hoth hbel _
      have HF15 := Lib.hid hbk.out
      have HB16 := Lib.hid hbel.out
      have HS17 := Lib.hid (HS14.out.kept (hoth.out B (by omega)))
      clear hbk hoth hbel HB13 HS14 HF12
      go_wp2_with fail
      refine bodyPost_ret (results_ctY rfl _ _ (w.heap.size) #[.int .i64 0, .int .i64 0, .int .i64 0, .string ⟨#[]⟩, .string ⟨#[]⟩, .string ⟨#[]⟩, .int .i64 0, .int .i64 0] rfl (run_loadVar_row _ (w.heap.size) 25 25 _ (0, 0) _ HF15.out Tryz.underlying25 rfl (info_rec _ _ _ _ _ _ _ _))) rfl ?_
      exact ⟨rfl, HB16.out⟩
end Go.Proofs.YtagenkofoacajaaGreatDoor

namespace Go.Proofs.YtagenkofoacajaaGreatDoor
open Go.RowKit Vi Cm

theorem erput_no (a b k : Int) (x o n : ByteArray) (t u : Int) (w : World) (hx : x.size ≤ maxLen) (h : rok a b k x o n t u = false) :
    Calls Tryz.prog 19 #[.agg #[.int .i64 a, .int .i64 b, .int .i64 k, .string x, .string o, .string n, .int .i64 t, .int .i64 u]] w fun e w' => e = .returned (.tuple #[.string ⟨#[]⟩, .int .i64 2]) ∧ Below w.heap.size w w' := by
  have HCK := Lib.hid (fun W : World => rcheck_any a b k x o n t u W hx)
  rw [← errR_no h] at HCK
  clear h hx
  have HB1 := Lib.hid (Below.refl w.heap.size w)
  go_enter Tryz.func19, Tryz.ntmps19
  go_wp2_with fail
  have HF2 := Lib.hid (blk_new w (.cells #[.int .i64 a, .int .i64 b, .int .i64 k, .string x, .string o, .string n, .int .i64 t, .int .i64 u] 25 (0, 0)))
  have HB3 := Lib.hid (HB1.out.alloc HB1.out.size (.cells #[.int .i64 a, .int .i64 b, .int .i64 k, .string x, .string o, .string n, .int .i64 t, .int .i64 u] 25 (0, 0)))
  clear HB1
  refine (HCK.out (w.alloc (.cells #[.int .i64 a, .int .i64 b, .int .i64 k, .string x, .string o, .string n, .int .i64 t, .int .i64 u] 25 (0, 0)))).mono ?_
  rintro e w1 ⟨rfl, hb1⟩
  have HF4 := Lib.hid (blk_below HF2.out hb1)
  have HB5 := Lib.hid (HB3.out.trans (hb1.mono HB3.out.size))
  clear hb1 HB3 HF2
  go_wp2_with fail
  go_ret2
  exact ⟨rfl, HB5.out⟩
/-- what the document's Put answers -/
def recD (a b k : Int) (x o n : ByteArray) (t u : Int) : ByteArray := if rok a b k x o n t u = true then recS a b k x o n t u else ⟨#[]⟩
theorem body_flat (a b k : Int) (x o n : ByteArray) (t u : Int) : ((((((((⟨#[82]⟩ ++ pnb a) ++ pnb b) ++ pnb k) ++ ptxH x) ++ ptxH o) ++ ptxH n) ++ pnb t) ++ pnb u : ByteArray) = bodyR a b k x o n t u := by
  unfold bodyR
  simp only [catN, catT, app_emp, ByteArray.append_assoc]
end Go.Proofs.YtagenkofoacajaaGreatDoor

namespace Go.Proofs.YtagenkofoacajaaGreatDoor
open Go.RowKit Cm


theorem aw_seal : (ByteArray.mk #[97, 98] ++ ByteArray.mk (tl (on 0 (ByteArray.mk #[97, 98]).data.toList)).toArray) = ByteArray.mk #[97, 98, 109, 72, 131, 158] := by decide +kernel
theorem aw_open : opened (ByteArray.mk #[97, 98, 109, 72, 131, 158]) = .tuple #[.string ⟨#[97, 98]⟩, .bool true] := by
  have h : sealed (ByteArray.mk #[97, 98, 109, 72, 131, 158]) = true := by decide +kernel
  unfold opened; rw [h]; rfl
theorem aw_sum : on 0 (flatB [ByteArray.mk #[49, 50, 51, 52, 53, 54, 55, 56, 57]]) = 3421780262 := by decide +kernel

end Go.Proofs.YtagenkofoacajaaGreatDoor

namespace Go.Proofs.YtagenkofoacajaaGreatDoor
open Go.RowKit Vi Cm

theorem one_scE (S : ByteArray) (x y : Int) : (#[.string S, .int .i64 x, .int .i64 y] : Array Value).all (·.oneCell') = true := by simp [Value.oneCell']
theorem lstE2_yes {a b : ByteArray} (h : a = b) : (a.toList == b.toList) = true := by rw [h]; simp
theorem lstE2_no {a b : ByteArray} (h : a ≠ b) : (a.toList == b.toList) = false := by
  rw [beq_eq_false_iff_ne, Lib.toList_data, Lib.toList_data]
  exact fun e => h (ba_ext e)
end Go.Proofs.YtagenkofoacajaaGreatDoor

namespace Go.Proofs.YtagenkofoacajaaGreatDoor
open Go.RowKit Vi Cm

set_option maxHeartbeats 4000000 in
set_option maxRecDepth 100000 in
theorem eis_hit (a b k : Int) (x o n : ByteArray) (t u : Int) (w : World) (hT : Tab w) (h : rok a b k x o n t u = true) :
    Calls Tryz.prog 30 #[.string (recS a b k x o n t u), .int .i64 a, .int .i64 b] w fun e w' => e = .returned (.tuple #[.agg (recV a b k x o n t u), .bool true]) ∧ Below w.heap.size w w' := by
  have HT := Lib.hid hT
  have HTK := Lib.hid (fun (W : World) (g : Tab W) => etake_yes a b k x o n t u W g h)
  unfold recV at HTK ⊢
  generalize recS a b k x o n t u = S at HTK ⊢
  clear h hT
  have HB1 := Lib.hid (Below.refl w.heap.size w)
  go_enter Tryz.func30, Tryz.ntmps30
  go_wp2_with fail
  have HF2 := Lib.hid (blk_new w (.cells #[.int .i64 0, .int .i64 0, .int .i64 0, .string ⟨#[]⟩, .string ⟨#[]⟩, .string ⟨#[]⟩, .int .i64 0, .int .i64 0] 25 (0, 0)))
  have HB3 := Lib.hid (HB1.out.alloc HB1.out.size (.cells #[.int .i64 0, .int .i64 0, .int .i64 0, .string ⟨#[]⟩, .string ⟨#[]⟩, .string ⟨#[]⟩, .int .i64 0, .int .i64 0] 25 (0, 0)))
  clear HB1
  refine (HTK.out (w.alloc (.cells #[.int .i64 0, .int .i64 0, .int .i64 0, .string ⟨#[]⟩, .string ⟨#[]⟩, .string ⟨#[]⟩, .int .i64 0, .int .i64 0] 25 (0, 0))) (HT.out.later HB3.out)).mono ?_
  rintro e w1 ⟨rfl, hb1⟩
  have HF4 := Lib.hid (blk_below HF2.out hb1)
  have HB5 := Lib.hid (HB3.out.trans (hb1.mono HB3.out.size))
  clear hb1 HB3 HF2
  have hk6 : w.heap.size < w1.heap.size := lt_of_block HF4.out
  have HF7 := Lib.hid (blk_alloc HF4.out (.cells #[.int .i64 a, .int .i64 b, .int .i64 k, .string x, .string o, .string n, .int .i64 t, .int .i64 u] 25 (0, 0)))
  have HF8 := Lib.hid (blk_new w1 (.cells #[.int .i64 a, .int .i64 b, .int .i64 k, .string x, .string o, .string n, .int .i64 t, .int .i64 u] 25 (0, 0)))
  have HB9 := Lib.hid (HB5.out.alloc HB5.out.size (.cells #[.int .i64 a, .int .i64 b, .int .i64 k, .string x, .string o, .string n, .int .i64 t, .int .i64 u] 25 (0, 0)))
  clear HB5
  have hc10 : (w1.alloc (.cells #[.int .i64 a, .int .i64 b, .int .i64 k, .string x, .string o, .string n, .int .i64 t, .int .i64 u] 25 (0, 0))).cell? ⟨w1.heap.size, 0, none⟩ = some (.int .i64 a) := by rw [cell_of_row _ _ _ _ _ _ HF8.out]; rfl
  have hc11 : (w1.alloc (.cells #[.int .i64 a, .int .i64 b, .int .i64 k, .string x, .string o, .string n, .int .i64 t, .int .i64 u] 25 (0, 0))).cell? ⟨w1.heap.size, 1, none⟩ = some (.int .i64 b) := by rw [cell_of_row _ _ _ _ _ _ HF8.out]; rfl
  go_wp2_with (first
    | refine wpList_store_rowY rfl 25 (.tmp 6) (.tmp 30) rfl (w.heap.size) #[.int .i64 a, .int .i64 b, .int .i64 k, .string x, .string o, .string n, .int .i64 t, .int .i64 u] rfl rfl 25 _ HF7.out (info_rec _ _ _ _ _ _ _ _) rfl (one_rec _ _ _ _ _ _ _ _) w.heap.size w HB9.out (by omega) ?_
    | refine wpList_load_row rfl 25 (.tmp 8) rfl (w1.heap.size) rfl 25 #[.int .i64 a, .int .i64 b, .int .i64 k, .string x, .string o, .string n, .int .i64 t, .int .i64 u] (0, 0) _ HF8.out Tryz.underlying25 rfl (info_rec _ _ _ _ _ _ _ _) ?_)
  intro W2 hbk hoth hbel _
  clear hc10 hc11
  have HF12 := Lib.hid hbk.out
  have HF13 := Lib.hid (blk_oth HF8.out hoth.out (by omega))
  have HB14 := Lib.hid hbel.out
  clear hbk hoth hbel HB9  HF7 HF8
  go_wp2_with fail
  refine bodyPost_ret (results_ctY rfl _ _ (w.heap.size) #[.int .i64 a, .int .i64 b, .int .i64 k, .string x, .string o, .string n, .int .i64 t, .int .i64 u] rfl (run_loadVar_row _ (w.heap.size) 25 25 _ (0, 0) _ HF12.out Tryz.underlying25 rfl (info_rec _ _ _ _ _ _ _ _))) rfl ?_
  exact ⟨rfl, HB14.out⟩
set_option maxHeartbeats 4000000 in
set_option maxRecDepth 100000 in
theorem eis_miss (a b k : Int) (x o n : ByteArray) (t u ep sq : Int) (w : World) (hT : Tab w) (h : rok a b k x o n t u = true) (hm : ¬ (a = ep ∧ b = sq)) :
    Calls Tryz.prog 30 #[.string (recS a b k x o n t u), .int .i64 ep, .int .i64 sq] w fun e w' => e = .returned (.tuple #[.agg recZ, .bool false]) ∧ Below w.heap.size w w' := by
  have HT := Lib.hid hT
  have HTK := Lib.hid (fun (W : World) (g : Tab W) => etake_yes a b k x o n t u W g h)
  unfold recV at HTK
  unfold recZ
  generalize recS a b k x o n t u = S at HTK ⊢
  clear h hT
  by_cases h1 : a = ep
  · have h2 : (b == sq) = false := by rw [beq_eq_false_iff_ne]; exact fun e => hm ⟨h1, e⟩
    have h3 : (b != sq) = true := by rw [bne, h2]; rfl
    subst h1
    clear hm
    have HB1 := Lib.hid (Below.refl w.heap.size w)
    go_enter Tryz.func30, Tryz.ntmps30
    go_wp2_with fail
    have HF2 := Lib.hid (blk_new w (.cells #[.int .i64 0, .int .i64 0, .int .i64 0, .string ⟨#[]⟩, .string ⟨#[]⟩, .string ⟨#[]⟩, .int .i64 0, .int .i64 0] 25 (0, 0)))
    have HB3 := Lib.hid (HB1.out.alloc HB1.out.size (.cells #[.int .i64 0, .int .i64 0, .int .i64 0, .string ⟨#[]⟩, .string ⟨#[]⟩, .string ⟨#[]⟩, .int .i64 0, .int .i64 0] 25 (0, 0)))
    clear HB1
    refine (HTK.out (w.alloc (.cells #[.int .i64 0, .int .i64 0, .int .i64 0, .string ⟨#[]⟩, .string ⟨#[]⟩, .string ⟨#[]⟩, .int .i64 0, .int .i64 0] 25 (0, 0))) (HT.out.later HB3.out)).mono ?_
    rintro e w1 ⟨rfl, hb1⟩
    have HF4 := Lib.hid (blk_below HF2.out hb1)
    have HB5 := Lib.hid (HB3.out.trans (hb1.mono HB3.out.size))
    clear hb1 HB3 HF2
    have hk6 : w.heap.size < w1.heap.size := lt_of_block HF4.out
    have HF7 := Lib.hid (blk_alloc HF4.out (.cells #[.int .i64 a, .int .i64 b, .int .i64 k, .string x, .string o, .string n, .int .i64 t, .int .i64 u] 25 (0, 0)))
    have HF8 := Lib.hid (blk_new w1 (.cells #[.int .i64 a, .int .i64 b, .int .i64 k, .string x, .string o, .string n, .int .i64 t, .int .i64 u] 25 (0, 0)))
    have HB9 := Lib.hid (HB5.out.alloc HB5.out.size (.cells #[.int .i64 a, .int .i64 b, .int .i64 k, .string x, .string o, .string n, .int .i64 t, .int .i64 u] 25 (0, 0)))
    clear HB5
    have hc10 : (w1.alloc (.cells #[.int .i64 a, .int .i64 b, .int .i64 k, .string x, .string o, .string n, .int .i64 t, .int .i64 u] 25 (0, 0))).cell? ⟨w1.heap.size, 0, none⟩ = some (.int .i64 a) := by rw [cell_of_row _ _ _ _ _ _ HF8.out]; rfl
    have hc11 : (w1.alloc (.cells #[.int .i64 a, .int .i64 b, .int .i64 k, .string x, .string o, .string n, .int .i64 t, .int .i64 u] 25 (0, 0))).cell? ⟨w1.heap.size, 1, none⟩ = some (.int .i64 b) := by rw [cell_of_row _ _ _ _ _ _ HF8.out]; rfl
    go_wp2_with (first
      | refine wpList_store_rowY rfl 25 (.tmp 6) (.tmp 29) rfl (w.heap.size) #[.int .i64 0, .int .i64 0, .int .i64 0, .string ⟨#[]⟩, .string ⟨#[]⟩, .string ⟨#[]⟩, .int .i64 0, .int .i64 0] rfl rfl 25 _ HF7.out (info_rec _ _ _ _ _ _ _ _) rfl (one_rec _ _ _ _ _ _ _ _) w.heap.size w HB9.out (by omega) ?_)
    intro W2 hbk hoth hbel _
    clear hc10 hc11
    have HF12 := Lib.hid hbk.out
    have HF13 := Lib.hid (blk_oth HF8.out hoth.out (by omega))
    have HB14 := Lib.hid hbel.out
    clear hbk hoth hbel HB9  HF7 HF8
    go_wp2_with fail
    refine bodyPost_ret (results_ctY rfl _ _ (w.heap.size) #[.int .i64 0, .int .i64 0, .int .i64 0, .string ⟨#[]⟩, .string ⟨#[]⟩, .string ⟨#[]⟩, .int .i64 0, .int .i64 0] rfl (run_loadVar_row _ (w.heap.size) 25 25 _ (0, 0) _ HF12.out Tryz.underlying25 rfl (info_rec _ _ _ _ _ _ _ _))) rfl ?_
    exact ⟨rfl, HB14.out⟩
  · have h2 : (a == ep) = false := by rw [beq_eq_false_iff_ne]; exact h1
    have h3 : (a != ep) = true := by rw [bne, h2]; rfl
    clear hm h1
    have HB1 := Lib.hid (Below.refl w.heap.size w)
    go_enter Tryz.func30, Tryz.ntmps30
    go_wp2_with fail
    have HF2 := Lib.hid (blk_new w (.cells #[.int .i64 0, .int .i64 0, .int .i64 0, .string ⟨#[]⟩, .string ⟨#[]⟩, .string ⟨#[]⟩, .int .i64 0, .int .i64 0] 25 (0, 0)))
    have HB3 := Lib.hid (HB1.out.alloc HB1.out.size (.cells #[.int .i64 0, .int .i64 0, .int .i64 0, .string ⟨#[]⟩, .string ⟨#[]⟩, .string ⟨#[]⟩, .int .i64 0, .int .i64 0] 25 (0, 0)))
    clear HB1
    refine (HTK.out (w.alloc (.cells #[.int .i64 0, .int .i64 0, .int .i64 0, .string ⟨#[]⟩, .string ⟨#[]⟩, .string ⟨#[]⟩, .int .i64 0, .int .i64 0] 25 (0, 0))) (HT.out.later HB3.out)).mono ?_
    rintro e w1 ⟨rfl, hb1⟩
    have HF4 := Lib.hid (blk_below HF2.out hb1)
    have HB5 := Lib.hid (HB3.out.trans (hb1.mono HB3.out.size))
    clear hb1 HB3 HF2
    have hk6 : w.heap.size < w1.heap.size := lt_of_block HF4.out
    have HF7 := Lib.hid (blk_alloc HF4.out (.cells #[.int .i64 a, .int .i64 b, .int .i64 k, .string x, .string o, .string n, .int .i64 t, .int .i64 u] 25 (0, 0)))
    have HF8 := Lib.hid (blk_new w1 (.cells #[.int .i64 a, .int .i64 b, .int .i64 k, .string x, .string o, .string n, .int .i64 t, .int .i64 u] 25 (0, 0)))
    have HB9 := Lib.hid (HB5.out.alloc HB5.out.size (.cells #[.int .i64 a, .int .i64 b, .int .i64 k, .string x, .string o, .string n, .int .i64 t, .int .i64 u] 25 (0, 0)))
    clear HB5
    have hc10 : (w1.alloc (.cells #[.int .i64 a, .int .i64 b, .int .i64 k, .string x, .string o, .string n, .int .i64 t, .int .i64 u] 25 (0, 0))).cell? ⟨w1.heap.size, 0, none⟩ = some (.int .i64 a) := by rw [cell_of_row _ _ _ _ _ _ HF8.out]; rfl
    have hc11 : (w1.alloc (.cells #[.int .i64 a, .int .i64 b, .int .i64 k, .string x, .string o, .string n, .int .i64 t, .int .i64 u] 25 (0, 0))).cell? ⟨w1.heap.size, 1, none⟩ = some (.int .i64 b) := by rw [cell_of_row _ _ _ _ _ _ HF8.out]; rfl
    go_wp2_with (first
      | refine wpList_store_rowY rfl 25 (.tmp 6) (.tmp 29) rfl (w.heap.size) #[.int .i64 0, .int .i64 0, .int .i64 0, .string ⟨#[]⟩, .string ⟨#[]⟩, .string ⟨#[]⟩, .int .i64 0, .int .i64 0] rfl rfl 25 _ HF7.out (info_rec _ _ _ _ _ _ _ _) rfl (one_rec _ _ _ _ _ _ _ _) w.heap.size w HB9.out (by omega) ?_)
    intro W2 hbk hoth hbel _
    clear hc10 hc11
    have HF12 := Lib.hid hbk.out
    have HF13 := Lib.hid (blk_oth HF8.out hoth.out (by omega))
    have HB14 := Lib.hid hbel.out
    clear hbk hoth hbel HB9  HF7 HF8
    go_wp2_with fail
    refine bodyPost_ret (results_ctY rfl _ _ (w.heap.size) #[.int .i64 0, .int .i64 0, .int .i64 0, .string ⟨#[]⟩, .string ⟨#[]⟩, .string ⟨#[]⟩, .int .i64 0, .int .i64 0] rfl (run_loadVar_row _ (w.heap.size) 25 25 _ (0, 0) _ HF12.out Tryz.underlying25 rfl (info_rec _ _ _ _ _ _ _ _))) rfl ?_
    exact ⟨rfl, HB14.out⟩
set_option maxHeartbeats 4000000 in
set_option maxRecDepth 100000 in
theorem eis_no (S : ByteArray) (ep sq : Int) (w : World) (hT : Tab w) (hS : S.size ≤ 1000) (hno : ¬ IsRec S) :
    Calls Tryz.prog 30 #[.string S, .int .i64 ep, .int .i64 sq] w fun e w' => e = .returned (.tuple #[.agg recZ, .bool false]) ∧ Below w.heap.size w w' := by
  have HT := Lib.hid hT
  have HTK := Lib.hid (fun (W : World) (g : Tab W) => etake_no S W g hS hno)
  unfold recZ at HTK ⊢
  clear hno hT
  have HB1 := Lib.hid (Below.refl w.heap.size w)
  go_enter Tryz.func30, Tryz.ntmps30
  go_wp2_with fail
  have HF2 := Lib.hid (blk_new w (.cells #[.int .i64 0, .int .i64 0, .int .i64 0, .string ⟨#[]⟩, .string ⟨#[]⟩, .string ⟨#[]⟩, .int .i64 0, .int .i64 0] 25 (0, 0)))
  have HB3 := Lib.hid (HB1.out.alloc HB1.out.size (.cells #[.int .i64 0, .int .i64 0, .int .i64 0, .string ⟨#[]⟩, .string ⟨#[]⟩, .string ⟨#[]⟩, .int .i64 0, .int .i64 0] 25 (0, 0)))
  clear HB1
  refine (HTK.out (w.alloc (.cells #[.int .i64 0, .int .i64 0, .int .i64 0, .string ⟨#[]⟩, .string ⟨#[]⟩, .string ⟨#[]⟩, .int .i64 0, .int .i64 0] 25 (0, 0))) (HT.out.later HB3.out)).mono ?_
  rintro e w1 ⟨rfl, hb1⟩
  have HF4 := Lib.hid (blk_below HF2.out hb1)
  have HB5 := Lib.hid (HB3.out.trans (hb1.mono HB3.out.size))
  clear hb1 HB3 HF2
  have hk6 : w.heap.size < w1.heap.size := lt_of_block HF4.out
  have HF7 := Lib.hid (blk_alloc HF4.out (.cells #[.int .i64 0, .int .i64 0, .int .i64 0, .string ⟨#[]⟩, .string ⟨#[]⟩, .string ⟨#[]⟩, .int .i64 0, .int .i64 0] 25 (0, 0)))
  have HF8 := Lib.hid (blk_new w1 (.cells #[.int .i64 0, .int .i64 0, .int .i64 0, .string ⟨#[]⟩, .string ⟨#[]⟩, .string ⟨#[]⟩, .int .i64 0, .int .i64 0] 25 (0, 0)))
  have HB9 := Lib.hid (HB5.out.alloc HB5.out.size (.cells #[.int .i64 0, .int .i64 0, .int .i64 0, .string ⟨#[]⟩, .string ⟨#[]⟩, .string ⟨#[]⟩, .int .i64 0, .int .i64 0] 25 (0, 0)))
  clear HB5
  have hc10 : (w1.alloc (.cells #[.int .i64 0, .int .i64 0, .int .i64 0, .string ⟨#[]⟩, .string ⟨#[]⟩, .string ⟨#[]⟩, .int .i64 0, .int .i64 0] 25 (0, 0))).cell? ⟨w1.heap.size, 0, none⟩ = some (.int .i64 0) := by rw [cell_of_row _ _ _ _ _ _ HF8.out]; rfl
  have hc11 : (w1.alloc (.cells #[.int .i64 0, .int .i64 0, .int .i64 0, .string ⟨#[]⟩, .string ⟨#[]⟩, .string ⟨#[]⟩, .int .i64 0, .int .i64 0] 25 (0, 0))).cell? ⟨w1.heap.size, 1, none⟩ = some (.int .i64 0) := by rw [cell_of_row _ _ _ _ _ _ HF8.out]; rfl
  go_wp2_with (first
    | refine wpList_store_rowY rfl 25 (.tmp 6) (.tmp 29) rfl (w.heap.size) #[.int .i64 0, .int .i64 0, .int .i64 0, .string ⟨#[]⟩, .string ⟨#[]⟩, .string ⟨#[]⟩, .int .i64 0, .int .i64 0] rfl rfl 25 _ HF7.out (info_rec _ _ _ _ _ _ _ _) rfl (one_rec _ _ _ _ _ _ _ _) w.heap.size w HB9.out (by omega) ?_)
  intro W2 hbk hoth hbel _
  clear hc10 hc11
  have HF12 := Lib.hid hbk.out
  have HF13 := Lib.hid (blk_oth HF8.out hoth.out (by omega))
  have HB14 := Lib.hid hbel.out
  clear hbk hoth hbel HB9  HF7 HF8
  go_wp2_with fail
  refine bodyPost_ret (results_ctY rfl _ _ (w.heap.size) #[.int .i64 0, .int .i64 0, .int .i64 0, .string ⟨#[]⟩, .string ⟨#[]⟩, .string ⟨#[]⟩, .int .i64 0, .int .i64 0] rfl (run_loadVar_row _ (w.heap.size) 25 25 _ (0, 0) _ HF12.out Tryz.underlying25 rfl (info_rec _ _ _ _ _ _ _ _))) rfl ?_
  exact ⟨rfl, HB14.out⟩
theorem rok_aw : rok 1 0 1 ⟨#[97]⟩ ⟨#[]⟩ (noughts 32) 0 2 = true := by decide +kernel
end Go.Proofs.YtagenkofoacajaaGreatDoor
