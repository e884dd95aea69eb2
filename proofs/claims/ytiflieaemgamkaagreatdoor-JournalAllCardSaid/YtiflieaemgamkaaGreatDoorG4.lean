/- Several texts of one family, merged for a claim. Conditions as in its parts. -/
import Derived.Test.YtiflieaemgamkaaGreatDoorEc
import Derived.Test.YtiflieaemgamkaaGreatDoorYh
import Derived.Test.YtiflieaemgamkaaGreatDoorCo
import Derived.Test.YtiflieaemgamkaaGreatDoorCr
namespace Go.Proofs.YtiflieaemgamkaaGreatDoor
open Go.RowKit Vi Cm

theorem eight_is (Y : ByteArray) (q : Nat) (a b k t u : Nat) (x o n : ByteArray) (ma mb mk mx mo mn mt mu : Int) (h : Y.data.toList.drop q = put a ++ (put b ++ (put k ++ (put x.size ++ (x.data.toList ++ (put o.size ++ (o.data.toList ++ (put n.size ++ (n.data.toList ++ (put t ++ (put u ++ ([]))))))))))))
    (ha : (a : Int) ≤ ma) (ga : ma ≤ 4294967296) (hb : (b : Int) ≤ mb) (gb : mb ≤ 4294967296) (hk : (k : Int) ≤ mk) (gk : mk ≤ 4294967296) (hx : (x.size : Int) ≤ mx) (gx : mx ≤ 4294967296) (ho : (o.size : Int) ≤ mo) (go : mo ≤ 4294967296) (hn : (n.size : Int) ≤ mn) (gn : mn ≤ 4294967296) (ht : (t : Int) ≤ mt) (gt : mt ≤ 4294967296) (hu : (u : Int) ≤ mu) (gu : mu ≤ 4294967296) :
    ∃ q1 q2 q3 q4 q5 q6 q7 q8, Rd.num Y q 0 ma = ((a : Int), q1, 0) ∧ Rd.num Y q1 0 mb = ((b : Int), q2, 0) ∧ Rd.num Y q2 0 mk = ((k : Int), q3, 0) ∧ Rd.text Y q3 0 mx = (x, q4, 0) ∧ Rd.text Y q4 0 mo = (o, q5, 0) ∧ Rd.text Y q5 0 mn = (n, q6, 0) ∧ Rd.num Y q6 0 mt = ((t : Int), q7, 0) ∧ Rd.num Y q7 0 mu = ((u : Int), q8, 0) ∧ Y.data.toList.drop q8 = [] := by
  have e0 : Y.data.toList.drop (q + (put a).length) = put b ++ (put k ++ (put x.size ++ (x.data.toList ++ (put o.size ++ (o.data.toList ++ (put n.size ++ (n.data.toList ++ (put t ++ (put u ++ ([])))))))))) := by rw [← List.drop_drop, h, List.drop_left]
  have e1 : Y.data.toList.drop ((q + (put a).length) + (put b).length) = put k ++ (put x.size ++ (x.data.toList ++ (put o.size ++ (o.data.toList ++ (put n.size ++ (n.data.toList ++ (put t ++ (put u ++ ([]))))))))) := by rw [← List.drop_drop, e0, List.drop_left]
  have e2 : Y.data.toList.drop (((q + (put a).length) + (put b).length) + (put k).length) = put x.size ++ (x.data.toList ++ (put o.size ++ (o.data.toList ++ (put n.size ++ (n.data.toList ++ (put t ++ (put u ++ ([])))))))) := by rw [← List.drop_drop, e1, List.drop_left]
  have e3 : Y.data.toList.drop ((((q + (put a).length) + (put b).length) + (put k).length) + (put x.size).length + x.size) = put o.size ++ (o.data.toList ++ (put n.size ++ (n.data.toList ++ (put t ++ (put u ++ ([])))))) := by rw [← List.drop_drop, ← List.drop_drop, e2, List.drop_left, show x.size = x.data.toList.length from (ba_len x).symm, List.drop_left]
  have e4 : Y.data.toList.drop (((((q + (put a).length) + (put b).length) + (put k).length) + (put x.size).length + x.size) + (put o.size).length + o.size) = put n.size ++ (n.data.toList ++ (put t ++ (put u ++ ([])))) := by rw [← List.drop_drop, ← List.drop_drop, e3, List.drop_left, show o.size = o.data.toList.length from (ba_len o).symm, List.drop_left]
  have e5 : Y.data.toList.drop ((((((q + (put a).length) + (put b).length) + (put k).length) + (put x.size).length + x.size) + (put o.size).length + o.size) + (put n.size).length + n.size) = put t ++ (put u ++ ([])) := by rw [← List.drop_drop, ← List.drop_drop, e4, List.drop_left, show n.size = n.data.toList.length from (ba_len n).symm, List.drop_left]
  have e6 : Y.data.toList.drop (((((((q + (put a).length) + (put b).length) + (put k).length) + (put x.size).length + x.size) + (put o.size).length + o.size) + (put n.size).length + n.size) + (put t).length) = put u ++ ([]) := by rw [← List.drop_drop, e5, List.drop_left]
  have e7 : Y.data.toList.drop ((((((((q + (put a).length) + (put b).length) + (put k).length) + (put x.size).length + x.size) + (put o.size).length + o.size) + (put n.size).length + n.size) + (put t).length) + (put u).length) = [] := by rw [← List.drop_drop, e6, List.drop_left]
  exact ⟨_, _, _, _, _, _, _, _, num_is Y _ a ma _ h (by omega) ha, num_is Y _ b mb _ e0 (by omega) hb, num_is Y _ k mk _ e1 (by omega) hk, text_is Y _ mx x _ e2 (by omega) hx, text_is Y _ mo o _ e3 (by omega) ho, text_is Y _ mn n _ e4 (by omega) hn, num_is Y _ t mt _ e5 (by omega) ht, num_is Y _ u mu _ e6 (by omega) hu, e7⟩
theorem eight_of (Y : ByteArray) (q q1 q2 q3 q4 q5 q6 q7 q8 : Nat) (e e1 e2 e3 e4 e5 e6 e7 : Int) (a b k t u : Int) (x o n : ByteArray) (ma mb mk mx mo mn mt mu : Int) (hq : q ≤ Y.size)
    (h1 : Rd.num Y q e ma = (a, q1, e1)) (h2 : Rd.num Y q1 e1 mb = (b, q2, e2)) (h3 : Rd.num Y q2 e2 mk = (k, q3, e3)) (h4 : Rd.text Y q3 e3 mx = (x, q4, e4)) (h5 : Rd.text Y q4 e4 mo = (o, q5, e5)) (h6 : Rd.text Y q5 e5 mn = (n, q6, e6)) (h7 : Rd.num Y q6 e6 mt = (t, q7, e7)) (h8 : Rd.num Y q7 e7 mu = (u, q8, 0)) :
    e = 0 ∧ ∃ a' b' k' t' u' : Nat, a = a' ∧ b = b' ∧ k = k' ∧ t = t' ∧ u = u' ∧ Y.data.toList.drop q = put a' ++ (put b' ++ (put k' ++ (put x.size ++ (x.data.toList ++ (put o.size ++ (o.data.toList ++ (put n.size ++ (n.data.toList ++ (put t' ++ (put u' ++ (Y.data.toList.drop q8))))))))))) := by
  have l1 : q1 ≤ Y.size := by have := Rd.num_le Y q e ma hq; rw [h1] at this; exact this
  have l2 : q2 ≤ Y.size := by have := Rd.num_le Y q1 e1 mb l1; rw [h2] at this; exact this
  have l3 : q3 ≤ Y.size := by have := Rd.num_le Y q2 e2 mk l2; rw [h3] at this; exact this
  have l4 : q4 ≤ Y.size := by have := Rd.text_le Y q3 e3 mx l3; rw [h4] at this; exact this
  have l5 : q5 ≤ Y.size := by have := Rd.text_le Y q4 e4 mo l4; rw [h5] at this; exact this
  have l6 : q6 ≤ Y.size := by have := Rd.text_le Y q5 e5 mn l5; rw [h6] at this; exact this
  have l7 : q7 ≤ Y.size := by have := Rd.num_le Y q6 e6 mt l6; rw [h7] at this; exact this
  have l8 : q8 ≤ Y.size := by have := Rd.num_le Y q7 e7 mu l7; rw [h8] at this; exact this
  obtain ⟨z7, u', rfl, _, w7, _⟩ := num_of _ _ _ _ _ _ h8
  subst z7
  obtain ⟨z6, t', rfl, _, w6, _⟩ := num_of _ _ _ _ _ _ h7
  subst z6
  obtain ⟨z5, _, _, w5⟩ := text_of _ _ _ _ _ _ l5 h6
  subst z5
  obtain ⟨z4, _, _, w4⟩ := text_of _ _ _ _ _ _ l4 h5
  subst z4
  obtain ⟨z3, _, _, w3⟩ := text_of _ _ _ _ _ _ l3 h4
  subst z3
  obtain ⟨z2, k', rfl, _, w2, _⟩ := num_of _ _ _ _ _ _ h3
  subst z2
  obtain ⟨z1, b', rfl, _, w1, _⟩ := num_of _ _ _ _ _ _ h2
  subst z1
  obtain ⟨z0, a', rfl, _, w0, _⟩ := num_of _ _ _ _ _ _ h1
  subst z0
  exact ⟨rfl, a', b', k', t', u', rfl, rfl, rfl, rfl, rfl, by rw [w0, w1, w2, w3, w4, w5, w6, w7]⟩
/-- the bytes of a record behind its sign -/
def tailR (a b k : Nat) (x o n : ByteArray) (t u : Nat) : List UInt8 := put a ++ (put b ++ (put k ++ (put x.size ++ (x.data.toList ++ (put o.size ++ (o.data.toList ++ (put n.size ++ (n.data.toList ++ (put t ++ (put u ++ ([])))))))))))
theorem bodyR_list (a b k : Nat) (x o n : ByteArray) (t u : Nat) : (bodyR a b k x o n t u).data.toList = 82 :: tailR a b k x o n t u := by
  unfold bodyR tailR
  simp only [catN, catT]
  simp only [ba_app, ptx_list, pnb]
  simp
theorem rok_nat {a b k : Int} {x o n : ByteArray} {t u : Int} (h : rok a b k x o n t u = true) : ∃ a' b' k' t' u' : Nat, a = a' ∧ b = b' ∧ k = k' ∧ t = t' ∧ u = u' := by
  have h1 := rok_bd h
  exact ⟨a.toNat, b.toNat, k.toNat, t.toNat, u.toNat, by omega, by omega, by omega, by omega, by omega⟩
theorem rec_front {a b k : Int} {x o n : ByteArray} {t u : Int} (h : rok a b k x o n t u = true) : bareB (recS a b k x o n t u) = true ∧ bareT (recS a b k x o n t u) = sealH (bodyR a b k x o n t u) := by
  have hz := bodyR_size h
  refine bare_is _ ?_
  have h1 := ptx_le (sealH (bodyR a b k x o n t u)) 1 (by omega) (by rw [sealH_size]; omega)
  rw [sealH_size] at h1
  omega
theorem rec_size {a b k : Int} {x o n : ByteArray} {t u : Int} (h : rok a b k x o n t u = true) : (recS a b k x o n t u).size = 128 := (bare_of _ (rec_front h).1).2.2
/-- what is read of a record's bytes, by the program's limits -/
theorem rec_reads {a b k : Int} {x o n : ByteArray} {t u : Int} (h : rok a b k x o n t u = true) (Y : ByteArray) (q : Nat) (hY : ∀ a' b' k' t' u' : Nat, a = a' → b = b' → k = k' → t = t' → u = u' → Y.data.toList.drop q = tailR a' b' k' x o n t' u')
    (ma mb mk mx mo mn mt mu : Int) (ha : a ≤ ma) (hb : b ≤ mb) (hk : k ≤ mk) (hx : (x.size : Int) ≤ mx) (ho : (o.size : Int) ≤ mo) (hn : (n.size : Int) ≤ mn) (ht : t ≤ mt) (hu : u ≤ mu)
    (ga : ma ≤ 4294967296) (gb' : mb ≤ 4294967296) (gk' : mk ≤ 4294967296) (gx : mx ≤ 4294967296) (go : mo ≤ 4294967296) (gn' : mn ≤ 4294967296) (gt : mt ≤ 4294967296) (gu : mu ≤ 4294967296) :
    ∃ q1 q2 q3 q4 q5 q6 q7 q8, Rd.num Y q 0 ma = (a, q1, 0) ∧ Rd.num Y q1 0 mb = (b, q2, 0) ∧ Rd.num Y q2 0 mk = (k, q3, 0) ∧ Rd.text Y q3 0 mx = (x, q4, 0) ∧ Rd.text Y q4 0 mo = (o, q5, 0) ∧ Rd.text Y q5 0 mn = (n, q6, 0) ∧ Rd.num Y q6 0 mt = (t, q7, 0) ∧ Rd.num Y q7 0 mu = (u, q8, 0) ∧ Rd.fin Y q8 0 = 0 := by
  obtain ⟨a', b', k', t', u', rfl, rfl, rfl, rfl, rfl⟩ := rok_nat h
  have hl := hY a' b' k' t' u' rfl rfl rfl rfl rfl
  unfold tailR at hl
  obtain ⟨q1, q2, q3, q4, q5, q6, q7, q8, r1, r2, r3, r4, r5, r6, r7, r8, r9⟩ := eight_is Y q a' b' k' t' u' x o n ma mb mk mx mo mn mt mu hl ha ga hb gb' hk gk' hx gx ho go hn gn' ht gt hu gu
  exact ⟨q1, q2, q3, q4, q5, q6, q7, q8, r1, r2, r3, r4, r5, r6, r7, r8, fin_is _ _ r9⟩
theorem bodyR_tail {a b k : Int} {x o n : ByteArray} {t u : Int} (a' b' k' t' u' : Nat) (ha : a = a') (hb : b = b') (hk : k = k') (ht : t = t') (hu : u = u') : (bodyR a b k x o n t u).data.toList.drop 1 = tailR a' b' k' x o n t' u' := by
  subst ha hb hk ht hu
  rw [bodyR_list]; rfl
theorem rec_fix {a b k : Int} {x o n : ByteArray} {t u : Int} (h : rok a b k x o n t u = true) : Rd.fix (bodyR a b k x o n t u) 0 0 1 = (⟨#[82]⟩, 1, 0) := by
  obtain ⟨a', b', k', t', u', rfl, rfl, rfl, rfl, rfl⟩ := rok_nat h
  exact fix_is _ 0 ⟨#[82]⟩ (tailR a' b' k' x o n t' u') (Nat.zero_le _) (by rw [List.drop_zero, bodyR_list]; rfl)
/-- what was read, to its end, of a text behind a sign and ahead of its sum, is a record's sector -/
theorem rec_of (S X : ByteArray) (q0 q1 q2 q3 q4 q5 q6 q7 q8 : Nat) (e0 e1 e2 e3 e4 e5 e6 e7 e8 a b k : Int) (x o n : ByteArray) (t u : Int) (hb : bareB S = true) (hs : sealed (bareT S) = true) (hx : (bareT S).extract 0 ((bareT S).size - 4) = X)
    (hf : Rd.fix X 0 0 1 = (⟨#[82]⟩, q0, e0)) (h1 : Rd.num X q0 e0 4294967295 = (a, q1, e1)) (h2 : Rd.num X q1 e1 4095 = (b, q2, e2)) (h3 : Rd.num X q2 e2 2 = (k, q3, e3)) (h4 : Rd.text X q3 e3 12 = (x, q4, e4)) (h5 : Rd.text X q4 e4 32 = (o, q5, e5)) (h6 : Rd.text X q5 e5 32 = (n, q6, e6)) (h7 : Rd.num X q6 e6 524288 = (t, q7, e7)) (h8 : Rd.num X q7 e7 4294967296 = (u, q8, e8))
    (hfin : Rd.fin X q8 e8 = 0) : S = recS a b k x o n t u := by
  obtain ⟨k8, hend⟩ := fin_of _ _ _ hfin
  subst k8
  have hq : q0 ≤ X.size := by have := Rd.fix_le X 0 0 1 (Nat.zero_le _); rw [hf] at this; exact this
  obtain ⟨k0, a', b', k', t', u', rfl, rfl, rfl, rfl, rfl, hd⟩ := eight_of X q0 q1 q2 q3 q4 q5 q6 q7 q8 _ _ _ _ _ _ _ _ _ _ _ _ _ _ _ _ _ _ _ _ _ _ _ _ hq h1 h2 h3 h4 h5 h6 h7 h8
  subst k0
  obtain ⟨_, _, hq0, hl⟩ := fix_of X 0 0 1 ⟨#[82]⟩ q0 (Nat.zero_le _) hf
  rw [List.drop_zero, hd, hend] at hl
  have hX : X = bodyR a' b' k' x o n t' u' := ba_ext (by rw [hl, bodyR_list]; rfl)
  have ht := seal_of _ hs
  rw [hx, hX] at ht
  rw [(bare_of S hb).1, ht]
  rfl
def IsRec (S : ByteArray) : Prop := ∃ (a b k : Int) (x o n : ByteArray) (t u : Int), rok a b k x o n t u = true ∧ S = recS a b k x o n t u
end Go.Proofs.YtiflieaemgamkaaGreatDoor

namespace Go.Proofs.YtiflieaemgamkaaGreatDoor
open Go.RowKit Vi Cm

theorem info_rec (a b k x o n t u : Value) : (Tryz.prog.info? 42).map (·.size) = some (#[a, b, k, x, o, n, t, u] : Array Value).size := by kernel_rfl
theorem one_rec (a b k : Int) (x o n : ByteArray) (t u : Int) : (#[.int .i64 a, .int .i64 b, .int .i64 k, .string x, .string o, .string n, .int .i64 t, .int .i64 u] : Array Value).all (·.oneCell') = true := by simp [Value.oneCell']
theorem results_cE {fn : Func} {p : Tmp} {ty : TypeId} (h : fn.results = #[.cell p ty]) (tmps : Array Value) (w : World) (g : Nat) (cs : Array Value)
    (hp : tmps.getD p undef = .pointer (some ⟨g, 0, none⟩)) (hr : (loadVar ty ⟨g, 0, none⟩).run Tryz.prog w = .ok (.agg cs) w) :
    (results fn tmps).run Tryz.prog w = .ok (.agg cs) w := by
  have hp' : tmps[p]?.getD undef = .pointer (some ⟨g, 0, none⟩) := by simpa using hp
  simp [results, h, hp', asAddr, hr]
theorem but_rowE {B : Nat} {w W W' : World} (h : But B w W) (hb : Below w.heap.size W W') : But B w W' :=
  ⟨hb.os.trans h.os, hb.tape.trans h.tape, hb.output.trans h.output, Nat.le_trans h.size hb.size, fun i hi hne => (hb.block i hi).trans (h.block i hi hne)⟩
set_option maxHeartbeats 4000000 in
set_option maxRecDepth 100000 in
theorem eread_any (w : World) (B : Nat) (X : ByteArray) (q0 q1 q2 q3 q4 q5 q6 q7 q8 : Nat) (e0 e1 e2 e3 e4 e5 e6 e7 e8 a b k : Int) (x o n : ByteArray) (t u : Int) (hS : X.size ≤ 1000000) (hq : q0 ≤ X.size) (h : Sc w B true X q0 e0)
    (h1 : Rd.num X q0 e0 4294967295 = (a, q1, e1)) (h2 : Rd.num X q1 e1 4095 = (b, q2, e2)) (h3 : Rd.num X q2 e2 2 = (k, q3, e3)) (h4 : Rd.text X q3 e3 12 = (x, q4, e4)) (h5 : Rd.text X q4 e4 32 = (o, q5, e5)) (h6 : Rd.text X q5 e5 32 = (n, q6, e6)) (h7 : Rd.num X q6 e6 524288 = (t, q7, e7)) (h8 : Rd.num X q7 e7 4294967296 = (u, q8, e8)) :
    Calls Tryz.prog 203 #[.func (.func 204) #[.pointer (some ⟨B, 0, none⟩)] #[], .func (.func 205) #[.pointer (some ⟨B, 0, none⟩)] #[]] w
      fun e w' => e = .returned (.agg #[.int .i64 a, .int .i64 b, .int .i64 k, .string x, .string o, .string n, .int .i64 t, .int .i64 u]) ∧ Sc w' B true X q8 e8 ∧ But B w w' := by
  have hBlt := h.lt
  have l1 : q1 ≤ X.size := by have := Rd.num_le X q0 e0 4294967295 hq; rw [h1] at this; exact this
  have l2 : q2 ≤ X.size := by have := Rd.num_le X q1 e1 4095 l1; rw [h2] at this; exact this
  have l3 : q3 ≤ X.size := by have := Rd.num_le X q2 e2 2 l2; rw [h3] at this; exact this
  have l4 : q4 ≤ X.size := by have := Rd.text_le X q3 e3 12 l3; rw [h4] at this; exact this
  have l5 : q5 ≤ X.size := by have := Rd.text_le X q4 e4 32 l4; rw [h5] at this; exact this
  have l6 : q6 ≤ X.size := by have := Rd.text_le X q5 e5 32 l5; rw [h6] at this; exact this
  have l7 : q7 ≤ X.size := by have := Rd.num_le X q6 e6 524288 l6; rw [h7] at this; exact this
  have l8 : q8 ≤ X.size := by have := Rd.num_le X q7 e7 4294967296 l7; rw [h8] at this; exact this
  have H1 := Lib.hid (fun (W : World) (g : Sc W B true X q0 e0) => numU W B X q0 e0 4294967295 hS hq g (by omega))
  rw [h1] at H1
  dsimp only at H1
  have H2 := Lib.hid (fun (W : World) (g : Sc W B true X q1 e1) => numU W B X q1 e1 4095 hS l1 g (by omega))
  rw [h2] at H2
  dsimp only at H2
  have H3 := Lib.hid (fun (W : World) (g : Sc W B true X q2 e2) => numU W B X q2 e2 2 hS l2 g (by omega))
  rw [h3] at H3
  dsimp only at H3
  have H4 := Lib.hid (fun (W : World) (g : Sc W B true X q3 e3) => textU W B X q3 e3 12 hS l3 g (by omega))
  rw [h4] at H4
  dsimp only at H4
  have H5 := Lib.hid (fun (W : World) (g : Sc W B true X q4 e4) => textU W B X q4 e4 32 hS l4 g (by omega))
  rw [h5] at H5
  dsimp only at H5
  have H6 := Lib.hid (fun (W : World) (g : Sc W B true X q5 e5) => textU W B X q5 e5 32 hS l5 g (by omega))
  rw [h6] at H6
  dsimp only at H6
  have H7 := Lib.hid (fun (W : World) (g : Sc W B true X q6 e6) => numU W B X q6 e6 524288 hS l6 g (by omega))
  rw [h7] at H7
  dsimp only at H7
  have H8 := Lib.hid (fun (W : World) (g : Sc W B true X q7 e7) => numU W B X q7 e7 4294967296 hS l7 g (by omega))
  rw [h8] at H8
  dsimp only at H8
  clear h1 h2 h3 h4 h5 h6 h7 h8 l1 l2 l3 l4 l5 l6 l7 l8 hq
  have HK1 := Lib.hid (But.refl B w)
  have HS2 := Lib.hid h
  clear h
  go_enter Tryz.func203, Tryz.ntmps203
  go_wp2_with fail
  have HF3 := Lib.hid (blk_new w (.cells #[.int .i64 0, .int .i64 0, .int .i64 0, .string ⟨#[]⟩, .string ⟨#[]⟩, .string ⟨#[]⟩, .int .i64 0, .int .i64 0] 42 (0, 0)))
  have HK4 := Lib.hid (HK1.out.alloc (.cells #[.int .i64 0, .int .i64 0, .int .i64 0, .string ⟨#[]⟩, .string ⟨#[]⟩, .string ⟨#[]⟩, .int .i64 0, .int .i64 0] 42 (0, 0)))
  clear HK1
  have HS5 := Lib.hid (HS2.out.alloc (.cells #[.int .i64 0, .int .i64 0, .int .i64 0, .string ⟨#[]⟩, .string ⟨#[]⟩, .string ⟨#[]⟩, .int .i64 0, .int .i64 0] 42 (0, 0)))
  clear HS2
  refine (H1.out (w.alloc (.cells #[.int .i64 0, .int .i64 0, .int .i64 0, .string ⟨#[]⟩, .string ⟨#[]⟩, .string ⟨#[]⟩, .int .i64 0, .int .i64 0] 42 (0, 0))) HS5.out).mono ?_
  rintro e w1 ⟨rfl, hs, hk⟩
  have HF6 := Lib.hid (blk_but HF3.out hk (by omega))
  have HK7 := Lib.hid (HK4.out.trans hk)
  have HS8 := Lib.hid (hs)
  clear hs hk HK4 HS5 HF3
  have hk9 := HK7.out.size
  go_wp2_with fail
  refine (H2.out w1 HS8.out).mono ?_
  rintro e w2 ⟨rfl, hs, hk⟩
  have HF10 := Lib.hid (blk_but HF6.out hk (by omega))
  have HK11 := Lib.hid (HK7.out.trans hk)
  have HS12 := Lib.hid (hs)
  clear hs hk HK7 HS8 HF6
  have hk13 := HK11.out.size
  go_wp2_with fail
  refine (H3.out w2 HS12.out).mono ?_
  rintro e w3 ⟨rfl, hs, hk⟩
  have HF14 := Lib.hid (blk_but HF10.out hk (by omega))
  have HK15 := Lib.hid (HK11.out.trans hk)
  have HS16 := Lib.hid (hs)
  clear hs hk HK11 HS12 HF10
  have hk17 := HK15.out.size
  go_wp2_with fail
  refine (H4.out w3 HS16.out).mono ?_
  rintro e w4 ⟨rfl, hs, hk⟩
  have HF18 := Lib.hid (blk_but HF14.out hk (by omega))
  have HK19 := Lib.hid (HK15.out.trans hk)
  have HS20 := Lib.hid (hs)
  clear hs hk HK15 HS16 HF14
  have hk21 := HK19.out.size
  go_wp2_with fail
  refine (H5.out w4 HS20.out).mono ?_
  rintro e w5 ⟨rfl, hs, hk⟩
  have HF22 := Lib.hid (blk_but HF18.out hk (by omega))
  have HK23 := Lib.hid (HK19.out.trans hk)
  have HS24 := Lib.hid (hs)
  clear hs hk HK19 HS20 HF18
  have hk25 := HK23.out.size
  go_wp2_with fail
  refine (H6.out w5 HS24.out).mono ?_
  rintro e w6 ⟨rfl, hs, hk⟩
  have HF26 := Lib.hid (blk_but HF22.out hk (by omega))
  have HK27 := Lib.hid (HK23.out.trans hk)
  have HS28 := Lib.hid (hs)
  clear hs hk HK23 HS24 HF22
  have hk29 := HK27.out.size
  go_wp2_with fail
  refine (H7.out w6 HS28.out).mono ?_
  rintro e w7 ⟨rfl, hs, hk⟩
  have HF30 := Lib.hid (blk_but HF26.out hk (by omega))
  have HK31 := Lib.hid (HK27.out.trans hk)
  have HS32 := Lib.hid (hs)
  clear hs hk HK27 HS28 HF26
  have hk33 := HK31.out.size
  go_wp2_with fail
  refine (H8.out w7 HS32.out).mono ?_
  rintro e w8 ⟨rfl, hs, hk⟩
  have HF34 := Lib.hid (blk_but HF30.out hk (by omega))
  have HK35 := Lib.hid (HK31.out.trans hk)
  have HS36 := Lib.hid (hs)
  clear hs hk HK31 HS32 HF30
  have hk37 := HK35.out.size
  go_wp2_with (refine wpList_store_rowY rfl 42 (.tmp 4) (.tmp 21) rfl (w.heap.size) #[.int .i64 a, .int .i64 b, .int .i64 k, .string x, .string o, .string n, .int .i64 t, .int .i64 u] rfl rfl 42 _ HF34.out (info_rec _ _ _ _ _ _ _ _) rfl (one_rec _ _ _ _ _ _ _ _) (w.heap.size) w8 (Below.refl _ _) (by omega) ?_)
  intro W9 hbk hoth hbel _
  have HK9 := Lib.hid (but_rowE HK35.out (hbel.out.mono (by omega)))
  have HS9 := Lib.hid (HS36.out.kept (hoth.out B (by omega)))
  go_wp2_with fail
  refine bodyPost_ret (results_cE rfl _ _ (w.heap.size) #[.int .i64 a, .int .i64 b, .int .i64 k, .string x, .string o, .string n, .int .i64 t, .int .i64 u] rfl (run_loadVar_row _ (w.heap.size) 42 42 _ (0, 0) _ hbk.out Tryz.underlying42 rfl (info_rec _ _ _ _ _ _ _ _))) rfl ?_
  exact ⟨rfl, HS9.out, HK9.out⟩
end Go.Proofs.YtiflieaemgamkaaGreatDoor

namespace Go.Proofs.YtiflieaemgamkaaGreatDoor
open Go.RowKit Vi Cm

theorem lstE_no {a b : ByteArray} (h : a ≠ b) : (a.toList == b.data.toList) = false := by
  rw [beq_eq_false_iff_ne, Lib.toList_data]
  exact fun e => h (ba_ext e)
def recV (a b k : Int) (x o n : ByteArray) (t u : Int) : Array Value := #[.int .i64 a, .int .i64 b, .int .i64 k, .string x, .string o, .string n, .int .i64 t, .int .i64 u]
def recZ : Array Value := #[.int .i64 0, .int .i64 0, .int .i64 0, .string ⟨#[]⟩, .string ⟨#[]⟩, .string ⟨#[]⟩, .int .i64 0, .int .i64 0]
set_option maxHeartbeats 4000000 in
set_option maxRecDepth 100000 in
theorem etake_yes (a b k : Int) (x o n : ByteArray) (t u : Int) (w : World) (hT : Tab w) (h : rok a b k x o n t u = true) :
    Calls Tryz.prog 156 #[.string (recS a b k x o n t u)] w fun e w' => e = .returned (.tuple #[.agg (recV a b k x o n t u), .int .i64 0]) ∧ Below w.heap.size w w' := by
  obtain ⟨f1, f2⟩ := rec_front h
  have hz := rec_size h
  have HT := Lib.hid hT
  have bd := rok_bd h
  have bz := bodyR_size h
  have HBR := Lib.hid (fun W : World => bare_any (recS a b k x o n t u) W (by omega))
  unfold bareV at HBR
  rw [f1, if_pos rfl, if_pos rfl, f2] at HBR
  have hsz := sealH_size (bodyR a b k x o n t u)
  have HOP := Lib.hid (fun (W : World) (g : Tab W) => open_any (sealH (bodyR a b k x o n t u)) W g (by omega))
  rw [opened_yesY _ (seal_is (bodyR a b k x o n t u)).1, (seal_is (bodyR a b k x o n t u)).2] at HOP
  have hfx := rec_fix h
  obtain ⟨q1, q2, q3, q4, q5, q6, q7, q8, h1, h2, h3, h4, h5, h6, h7, h8, h9⟩ := rec_reads h (bodyR a b k x o n t u) 1 (fun a' b' k' t' u' => bodyR_tail a' b' k' t' u') 4294967295 4095 2 12 32 32 524288 4294967296 (by omega) (by omega) (by omega) (by omega) (by omega) (by omega) (by omega) (by omega) (by omega) (by omega) (by omega) (by omega) (by omega) (by omega) (by omega) (by omega)
  have HFX := Lib.hid (fun (W : World) (B : Nat) (g : Sc W B true (bodyR a b k x o n t u) 0 0) => fixU W B (bodyR a b k x o n t u) 0 0 1 (by omega) (by omega) g)
  rw [hfx] at HFX
  have HRD := Lib.hid (fun (W : World) (B : Nat) (g : Sc W B true (bodyR a b k x o n t u) 1 0) => eread_any W B (bodyR a b k x o n t u) 1 q1 q2 q3 q4 q5 q6 q7 q8 0 0 0 0 0 0 0 0 0 a b k x o n t u (by omega) (by omega) g h1 h2 h3 h4 h5 h6 h7 h8)
  have l8 : q8 ≤ (bodyR a b k x o n t u).size := by
    have l1 := Rd.num_le (bodyR a b k x o n t u) 1 0 4294967295 (by omega); rw [h1] at l1
    have l2 := Rd.num_le (bodyR a b k x o n t u) q1 0 4095 l1; rw [h2] at l2
    have l3 := Rd.num_le (bodyR a b k x o n t u) q2 0 2 l2; rw [h3] at l3
    have l4 := Rd.text_le (bodyR a b k x o n t u) q3 0 12 l3; rw [h4] at l4
    have l5 := Rd.text_le (bodyR a b k x o n t u) q4 0 32 l4; rw [h5] at l5
    have l6 := Rd.text_le (bodyR a b k x o n t u) q5 0 32 l5; rw [h6] at l6
    have l7 := Rd.num_le (bodyR a b k x o n t u) q6 0 524288 l6; rw [h7] at l7
    have l8 := Rd.num_le (bodyR a b k x o n t u) q7 0 4294967296 l7; rw [h8] at l8
    exact l8
  have HEN := Lib.hid (fun (W : World) (B : Nat) (g : Sc W B true (bodyR a b k x o n t u) q8 0) => finU W B (bodyR a b k x o n t u) q8 0 (by omega) l8 g)
  rw [h9] at HEN
  have HCK := Lib.hid (fun W : World => rcheck_any a b k x o n t u W (by unfold maxLen; omega))
  rw [← errR_yes h] at HCK
  unfold recV
  generalize sealH (bodyR a b k x o n t u) = U at HBR HOP
  generalize recS a b k x o n t u = S at HBR
  generalize bodyR a b k x o n t u = X at HOP HFX HRD HEN
  clear f1 f2 hz bd bz hsz hfx h1 h2 h3 h4 h5 h6 h7 h8 h9 l8 h hT
  have HB1 := Lib.hid (Below.refl w.heap.size w)
  go_enter Tryz.func156, Tryz.ntmps156
  go_wp2_with fail
  have HF2 := Lib.hid (blk_new w (.cells #[.int .i64 0, .int .i64 0, .int .i64 0, .string ⟨#[]⟩, .string ⟨#[]⟩, .string ⟨#[]⟩, .int .i64 0, .int .i64 0] 42 (0, 0)))
  have HB3 := Lib.hid (HB1.out.alloc HB1.out.size (.cells #[.int .i64 0, .int .i64 0, .int .i64 0, .string ⟨#[]⟩, .string ⟨#[]⟩, .string ⟨#[]⟩, .int .i64 0, .int .i64 0] 42 (0, 0)))
  clear HB1
  refine (HBR.out (w.alloc (.cells #[.int .i64 0, .int .i64 0, .int .i64 0, .string ⟨#[]⟩, .string ⟨#[]⟩, .string ⟨#[]⟩, .int .i64 0, .int .i64 0] 42 (0, 0)))).mono ?_
  rintro e w1 ⟨rfl, hb1⟩
  have HF4 := Lib.hid (blk_below HF2.out hb1)
  have HB5 := Lib.hid (HB3.out.trans (hb1.mono HB3.out.size))
  clear hb1 HB3 HF2
  go_wp2_with fail
  refine (HOP.out w1 (HT.out.later HB5.out)).mono ?_
  rintro e w2 ⟨rfl, hb2⟩
  have HF6 := Lib.hid (blk_below HF4.out hb2)
  have HB7 := Lib.hid (HB5.out.trans (hb2.mono HB5.out.size))
  clear hb2 HB5 HF4
  go_wp2_with fail
  refine (new_any _ w2).mono ?_
  rintro e w3 ⟨rfl, hs, hb⟩
  obtain ⟨B, hBe⟩ : ∃ B, B = w2.heap.size := ⟨_, rfl⟩
  rw [← hBe] at hs
  have HF8 := Lib.hid (blk_below HF6.out hb)
  have hk9 : w.heap.size < B := by rw [hBe]; exact lt_of_block HF6.out
  have HB10 := Lib.hid (HB7.out.trans (hb.mono HB7.out.size))
  have hBw : w.heap.size ≤ B := by rw [hBe]; exact HB7.out.size
  have HBE := Lib.hid hBe
  have HS11 := Lib.hid hs
  clear hb hs hBe HB7 HF6
  rw [← HBE.out]
  go_wp2_with fail
  refine (HFX.out w3 _ HS11.out).mono ?_
  rintro e w4 ⟨rfl, hs, hk⟩
  have HF12 := Lib.hid (blk_but HF8.out hk (by omega))
  have HB13 := Lib.hid (But.below HB10.out hk hBw HB10.out.size)
  have HS14 := Lib.hid hs
  clear hs hk HB10 HS11 HF8
  go_wp2_with fail
  refine (HRD.out w4 _ HS14.out).mono ?_
  rintro e w5 ⟨rfl, hs, hk⟩
  have HF15 := Lib.hid (blk_but HF12.out hk (by omega))
  have HB16 := Lib.hid (But.below HB13.out hk hBw HB13.out.size)
  have HS17 := Lib.hid hs
  clear hs hk HB13 HS14 HF12
  have hk18 : B < w5.heap.size := HS17.out.lt
  have HF19 := Lib.hid (blk_alloc HF15.out (.cells #[.int .i64 a, .int .i64 b, .int .i64 k, .string x, .string o, .string n, .int .i64 t, .int .i64 u] 42 (0, 0)))
  have HF20 := Lib.hid (blk_new w5 (.cells #[.int .i64 a, .int .i64 b, .int .i64 k, .string x, .string o, .string n, .int .i64 t, .int .i64 u] 42 (0, 0)))
  have HB21 := Lib.hid (HB16.out.alloc HB16.out.size (.cells #[.int .i64 a, .int .i64 b, .int .i64 k, .string x, .string o, .string n, .int .i64 t, .int .i64 u] 42 (0, 0)))
  clear HB16
  have HS22 := Lib.hid (HS17.out.alloc (.cells #[.int .i64 a, .int .i64 b, .int .i64 k, .string x, .string o, .string n, .int .i64 t, .int .i64 u] 42 (0, 0)))
  clear HS17
  go_wp2_with fail
  refine (HEN.out (w5.alloc (.cells #[.int .i64 a, .int .i64 b, .int .i64 k, .string x, .string o, .string n, .int .i64 t, .int .i64 u] 42 (0, 0))) _ HS22.out).mono ?_
  rintro e w6 ⟨rfl, hs, hk⟩
  have HF23 := Lib.hid (blk_but HF19.out hk (by omega))
  have HF24 := Lib.hid (blk_but HF20.out hk (by omega))
  have HB25 := Lib.hid (But.below HB21.out hk hBw HB21.out.size)
  have HS26 := Lib.hid hs
  clear hs hk HB21 HS22 HF19 HF15 HF20
  have hc27 : w6.cell? ⟨w5.heap.size, 0, none⟩ = some (.int .i64 a) := by rw [cell_of_row _ _ _ _ _ _ HF24.out]; rfl
  have hc28 : w6.cell? ⟨w5.heap.size, 1, none⟩ = some (.int .i64 b) := by rw [cell_of_row _ _ _ _ _ _ HF24.out]; rfl
  have hc29 : w6.cell? ⟨w5.heap.size, 2, none⟩ = some (.int .i64 k) := by rw [cell_of_row _ _ _ _ _ _ HF24.out]; rfl
  have hc30 : w6.cell? ⟨w5.heap.size, 3, none⟩ = some (.string x) := by rw [cell_of_row _ _ _ _ _ _ HF24.out]; rfl
  have hc31 : w6.cell? ⟨w5.heap.size, 4, none⟩ = some (.string o) := by rw [cell_of_row _ _ _ _ _ _ HF24.out]; rfl
  have hc32 : w6.cell? ⟨w5.heap.size, 5, none⟩ = some (.string n) := by rw [cell_of_row _ _ _ _ _ _ HF24.out]; rfl
  have hc33 : w6.cell? ⟨w5.heap.size, 6, none⟩ = some (.int .i64 t) := by rw [cell_of_row _ _ _ _ _ _ HF24.out]; rfl
  have hc34 : w6.cell? ⟨w5.heap.size, 7, none⟩ = some (.int .i64 u) := by rw [cell_of_row _ _ _ _ _ _ HF24.out]; rfl
  go_wp2_with fail
  refine (HCK.out w6).mono ?_
  rintro e w7 ⟨rfl, hb7⟩
  clear hc27 hc28 hc29 hc30 hc31 hc32 hc33 hc34
  have HF35 := Lib.hid (blk_below HF23.out hb7)
  have HF36 := Lib.hid (blk_below HF24.out hb7)
  have HB37 := Lib.hid (HB25.out.trans (hb7.mono HB25.out.size))
  have HS38 := Lib.hid (HS26.out.kept (hb7.block B HS26.out.lt))
  clear hb7 HB25 HS26 HF23 HF24
  have hc39 : w7.cell? ⟨w5.heap.size, 0, none⟩ = some (.int .i64 a) := by rw [cell_of_row _ _ _ _ _ _ HF36.out]; rfl
  have hc40 : w7.cell? ⟨w5.heap.size, 1, none⟩ = some (.int .i64 b) := by rw [cell_of_row _ _ _ _ _ _ HF36.out]; rfl
  have hc41 : w7.cell? ⟨w5.heap.size, 2, none⟩ = some (.int .i64 k) := by rw [cell_of_row _ _ _ _ _ _ HF36.out]; rfl
  have hc42 : w7.cell? ⟨w5.heap.size, 3, none⟩ = some (.string x) := by rw [cell_of_row _ _ _ _ _ _ HF36.out]; rfl
  have hc43 : w7.cell? ⟨w5.heap.size, 4, none⟩ = some (.string o) := by rw [cell_of_row _ _ _ _ _ _ HF36.out]; rfl
  have hc44 : w7.cell? ⟨w5.heap.size, 5, none⟩ = some (.string n) := by rw [cell_of_row _ _ _ _ _ _ HF36.out]; rfl
  have hc45 : w7.cell? ⟨w5.heap.size, 6, none⟩ = some (.int .i64 t) := by rw [cell_of_row _ _ _ _ _ _ HF36.out]; rfl
  have hc46 : w7.cell? ⟨w5.heap.size, 7, none⟩ = some (.int .i64 u) := by rw [cell_of_row _ _ _ _ _ _ HF36.out]; rfl
  go_wp2_with (first
    | refine wpList_store_rowY rfl 42 (.tmp 2) (.tmp 44) rfl (w.heap.size) #[.int .i64 a, .int .i64 b, .int .i64 k, .string x, .string o, .string n, .int .i64 t, .int .i64 u] rfl rfl 42 _ HF35.out (info_rec _ _ _ _ _ _ _ _) rfl (one_rec _ _ _ _ _ _ _ _) w.heap.size w HB37.out (by omega) ?_
    | refine wpList_load_row rfl 42 (.tmp 9) rfl (w5.heap.size) rfl 42 #[.int .i64 a, .int .i64 b, .int .i64 k, .string x, .string o, .string n, .int .i64 t, .int .i64 u] (0, 0) _ HF36.out Tryz.underlying42 rfl (info_rec _ _ _ _ _ _ _ _) ?_)
  intro W8 hbk hoth hbel _
  clear hc39 hc40 hc41 hc42 hc43 hc44 hc45 hc46
  have HF47 := Lib.hid hbk.out
  have HF48 := Lib.hid (blk_oth HF36.out hoth.out (by omega))
  have HB49 := Lib.hid hbel.out
  have HS50 := Lib.hid (HS38.out.kept (hoth.out B (by omega)))
  clear hbk hoth hbel HB37 HS38 HF35 HF36
  go_wp2_with fail
  refine bodyPost_ret (results_ctY rfl _ _ (w.heap.size) #[.int .i64 a, .int .i64 b, .int .i64 k, .string x, .string o, .string n, .int .i64 t, .int .i64 u] rfl (run_loadVar_row _ (w.heap.size) 42 42 _ (0, 0) _ HF47.out Tryz.underlying42 rfl (info_rec _ _ _ _ _ _ _ _))) rfl ?_
  exact ⟨rfl, HB49.out⟩
set_option maxHeartbeats 8000000 in
set_option maxRecDepth 100000 in
theorem etake_no (S : ByteArray) (w : World) (hT : Tab w) (hS : S.size ≤ 1000) (hno : ¬ IsRec S) :
    Calls Tryz.prog 156 #[.string S] w fun e w' => e = .returned (.tuple #[.agg recZ, .int .i64 3]) ∧ Below w.heap.size w w' := by
  have HT := Lib.hid hT
  obtain ⟨U, hU⟩ : ∃ U, (if bareB S = true then bareT S else ⟨#[]⟩) = U := ⟨_, rfl⟩
  obtain ⟨z, hz⟩ : ∃ z : Int, (if bareB S = true then 0 else 3) = z := ⟨_, rfl⟩
  have HBR := Lib.hid (fun W : World => bare_any S W hS)
  unfold bareV at HBR
  rw [hU, hz] at HBR
  have hUs : U.size ≤ 1000 := by
    rw [← hU]
    split
    · rename_i h; have := (bare_of S h).2.1; omega
    · exact Nat.zero_le _
  have HOP := Lib.hid (fun (W : World) (g : Tab W) => open_any U W g (by omega))
  unfold recZ
  cases hse : sealed U with
  | false =>
    rw [opened_noY _ hse] at HOP
    clear hU hz hUs hse hno hT
    have HB1 := Lib.hid (Below.refl w.heap.size w)
    go_enter Tryz.func156, Tryz.ntmps156
    go_wp2_with fail
    have HF2 := Lib.hid (blk_new w (.cells #[.int .i64 0, .int .i64 0, .int .i64 0, .string ⟨#[]⟩, .string ⟨#[]⟩, .string ⟨#[]⟩, .int .i64 0, .int .i64 0] 42 (0, 0)))
    have HB3 := Lib.hid (HB1.out.alloc HB1.out.size (.cells #[.int .i64 0, .int .i64 0, .int .i64 0, .string ⟨#[]⟩, .string ⟨#[]⟩, .string ⟨#[]⟩, .int .i64 0, .int .i64 0] 42 (0, 0)))
    clear HB1
    refine (HBR.out (w.alloc (.cells #[.int .i64 0, .int .i64 0, .int .i64 0, .string ⟨#[]⟩, .string ⟨#[]⟩, .string ⟨#[]⟩, .int .i64 0, .int .i64 0] 42 (0, 0)))).mono ?_
    rintro e w1 ⟨rfl, hb1⟩
    have HF4 := Lib.hid (blk_below HF2.out hb1)
    have HB5 := Lib.hid (HB3.out.trans (hb1.mono HB3.out.size))
    clear hb1 HB3 HF2
    go_wp2_with fail
    refine (HOP.out w1 (HT.out.later HB5.out)).mono ?_
    rintro e w2 ⟨rfl, hb2⟩
    have HF6 := Lib.hid (blk_below HF4.out hb2)
    have HB7 := Lib.hid (HB5.out.trans (hb2.mono HB5.out.size))
    clear hb2 HB5 HF4
    go_wp2_with fail
    refine (new_any _ w2).mono ?_
    rintro e w3 ⟨rfl, hs, hb⟩
    obtain ⟨B, hBe⟩ : ∃ B, B = w2.heap.size := ⟨_, rfl⟩
    rw [← hBe] at hs
    have HF8 := Lib.hid (blk_below HF6.out hb)
    have hk9 : w.heap.size < B := by rw [hBe]; exact lt_of_block HF6.out
    have HB10 := Lib.hid (HB7.out.trans (hb.mono HB7.out.size))
    have hBw : w.heap.size ≤ B := by rw [hBe]; exact HB7.out.size
    have HBE := Lib.hid hBe
    have HS11 := Lib.hid hs
    clear hb hs hBe HB7 HF6
    rw [← HBE.out]
    go_wp2_with (first
      | refine wpList_store_rowY rfl 42 (.tmp 2) (.tmp 29) rfl (w.heap.size) #[.int .i64 0, .int .i64 0, .int .i64 0, .string ⟨#[]⟩, .string ⟨#[]⟩, .string ⟨#[]⟩, .int .i64 0, .int .i64 0] rfl rfl 42 _ HF8.out (info_rec _ _ _ _ _ _ _ _) rfl (one_rec _ _ _ _ _ _ _ _) w.heap.size w HB10.out (by omega) ?_)
    intro W4 hbk hoth hbel _
    have HF12 := Lib.hid hbk.out
    have HB13 := Lib.hid hbel.out
    have HS14 := Lib.hid (HS11.out.kept (hoth.out B (by omega)))
    clear hbk hoth hbel HB10 HS11 HF8
    go_wp2_with fail
    refine bodyPost_ret (results_ctY rfl _ _ (w.heap.size) #[.int .i64 0, .int .i64 0, .int .i64 0, .string ⟨#[]⟩, .string ⟨#[]⟩, .string ⟨#[]⟩, .int .i64 0, .int .i64 0] rfl (run_loadVar_row _ (w.heap.size) 42 42 _ (0, 0) _ HF12.out Tryz.underlying42 rfl (info_rec _ _ _ _ _ _ _ _))) rfl ?_
    exact ⟨rfl, HB13.out⟩
  | true =>
    rw [opened_yesY _ hse] at HOP
    have hb : bareB S = true := by
      cases hb : bareB S with
      | true => rfl
      | false =>
        rw [hb, if_neg (by simp)] at hU
        rw [← hU] at hse
        exact absurd hse (by decide +kernel)
    rw [hb, if_pos rfl] at hU
    obtain ⟨X, hX⟩ : ∃ X, U.extract 0 (U.size - 4) = X := ⟨_, rfl⟩
    rw [hX] at HOP
    have hXs : X.size ≤ 1000 := by rw [← hX, ByteArray.size_extract]; omega
    obtain ⟨f, q0, e0, hf⟩ : ∃ f q e, Rd.fix X 0 0 1 = (f, q, e) := ⟨_, _, _, rfl⟩
    have HFX := Lib.hid (fun (W : World) (B : Nat) (g : Sc W B true X 0 0) => fixU W B X 0 0 1 (by omega) (by omega) g)
    rw [hf] at HFX
    dsimp only at HFX
    have l0 : q0 ≤ X.size := by have := Rd.fix_le X 0 0 1 (Nat.zero_le _); rw [hf] at this; exact this
    by_cases hfs : f = ⟨#[82]⟩
    · subst hfs
      obtain ⟨a, q1, e1, h1⟩ : ∃ a b c, Rd.num X q0 e0 4294967295 = (a, b, c) := ⟨_, _, _, rfl⟩
      have l1 : q1 ≤ X.size := by have := Rd.num_le X q0 e0 4294967295 l0; rw [h1] at this; exact this
      obtain ⟨b, q2, e2, h2⟩ : ∃ a b c, Rd.num X q1 e1 4095 = (a, b, c) := ⟨_, _, _, rfl⟩
      have l2 : q2 ≤ X.size := by have := Rd.num_le X q1 e1 4095 l1; rw [h2] at this; exact this
      obtain ⟨k, q3, e3, h3⟩ : ∃ a b c, Rd.num X q2 e2 2 = (a, b, c) := ⟨_, _, _, rfl⟩
      have l3 : q3 ≤ X.size := by have := Rd.num_le X q2 e2 2 l2; rw [h3] at this; exact this
      obtain ⟨x, q4, e4, h4⟩ : ∃ a b c, Rd.text X q3 e3 12 = (a, b, c) := ⟨_, _, _, rfl⟩
      have l4 : q4 ≤ X.size := by have := Rd.text_le X q3 e3 12 l3; rw [h4] at this; exact this
      obtain ⟨o, q5, e5, h5⟩ : ∃ a b c, Rd.text X q4 e4 32 = (a, b, c) := ⟨_, _, _, rfl⟩
      have l5 : q5 ≤ X.size := by have := Rd.text_le X q4 e4 32 l4; rw [h5] at this; exact this
      obtain ⟨n, q6, e6, h6⟩ : ∃ a b c, Rd.text X q5 e5 32 = (a, b, c) := ⟨_, _, _, rfl⟩
      have l6 : q6 ≤ X.size := by have := Rd.text_le X q5 e5 32 l5; rw [h6] at this; exact this
      obtain ⟨t, q7, e7, h7⟩ : ∃ a b c, Rd.num X q6 e6 524288 = (a, b, c) := ⟨_, _, _, rfl⟩
      have l7 : q7 ≤ X.size := by have := Rd.num_le X q6 e6 524288 l6; rw [h7] at this; exact this
      obtain ⟨u, q8, e8, h8⟩ : ∃ a b c, Rd.num X q7 e7 4294967296 = (a, b, c) := ⟨_, _, _, rfl⟩
      have l8 : q8 ≤ X.size := by have := Rd.num_le X q7 e7 4294967296 l7; rw [h8] at this; exact this
      have HRD := Lib.hid (fun (W : World) (B : Nat) (g : Sc W B true X q0 e0) => eread_any W B X q0 q1 q2 q3 q4 q5 q6 q7 q8 e0 e1 e2 e3 e4 e5 e6 e7 e8 a b k x o n t u (by omega) l0 g h1 h2 h3 h4 h5 h6 h7 h8)
      have HEN := Lib.hid (fun (W : World) (B : Nat) (g : Sc W B true X q8 e8) => finU W B X q8 e8 (by omega) l8 g)
      have hxs : x.size ≤ maxLen := by
        have := Rd.fix_size X (Rd.num X q3 e3 12).2.1 (Rd.num X q3 e3 12).2.2 (Rd.num X q3 e3 12).1
        have e : (Rd.text X q3 e3 12).1.size ≤ X.size := this
        rw [h4] at e
        dsimp only at e
        unfold maxLen; omega
      have HCK := Lib.hid (fun W : World => rcheck_any a b k x o n t u W hxs)
      have hrec := fun hfin hr => hno ⟨a, b, k, x, o, n, t, u, hr, rec_of S X q0 q1 q2 q3 q4 q5 q6 q7 q8 e0 e1 e2 e3 e4 e5 e6 e7 e8 a b k x o n t u hb (by rw [hU]; exact hse) (by rw [hU]; exact hX) hf h1 h2 h3 h4 h5 h6 h7 h8 hfin⟩
      obtain ⟨y, hy⟩ : ∃ y, Rd.fin X q8 e8 = y := ⟨_, rfl⟩
      rw [hy] at HEN hrec
      by_cases hy0 : y = 0
      · subst hy0
        have hr : rok a b k x o n t u = false := by
          cases hr : rok a b k x o n t u with
          | false => rfl
          | true => exact (hrec rfl hr).elim
        rw [← errR_no hr] at HCK
        clear hU hz hUs hse hno hT hb hX hXs hf l0 h1 h2 h3 h4 h5 h6 h7 h8 l1 l2 l3 l4 l5 l6 l7 l8 hxs hrec hr hy
        have HB1 := Lib.hid (Below.refl w.heap.size w)
        go_enter Tryz.func156, Tryz.ntmps156
        go_wp2_with fail
        have HF2 := Lib.hid (blk_new w (.cells #[.int .i64 0, .int .i64 0, .int .i64 0, .string ⟨#[]⟩, .string ⟨#[]⟩, .string ⟨#[]⟩, .int .i64 0, .int .i64 0] 42 (0, 0)))
        have HB3 := Lib.hid (HB1.out.alloc HB1.out.size (.cells #[.int .i64 0, .int .i64 0, .int .i64 0, .string ⟨#[]⟩, .string ⟨#[]⟩, .string ⟨#[]⟩, .int .i64 0, .int .i64 0] 42 (0, 0)))
        clear HB1
        refine (HBR.out (w.alloc (.cells #[.int .i64 0, .int .i64 0, .int .i64 0, .string ⟨#[]⟩, .string ⟨#[]⟩, .string ⟨#[]⟩, .int .i64 0, .int .i64 0] 42 (0, 0)))).mono ?_
        rintro e w1 ⟨rfl, hb1⟩
        have HF4 := Lib.hid (blk_below HF2.out hb1)
        have HB5 := Lib.hid (HB3.out.trans (hb1.mono HB3.out.size))
        clear hb1 HB3 HF2
        go_wp2_with fail
        refine (HOP.out w1 (HT.out.later HB5.out)).mono ?_
        rintro e w2 ⟨rfl, hb2⟩
        have HF6 := Lib.hid (blk_below HF4.out hb2)
        have HB7 := Lib.hid (HB5.out.trans (hb2.mono HB5.out.size))
        clear hb2 HB5 HF4
        go_wp2_with fail
        refine (new_any _ w2).mono ?_
        rintro e w3 ⟨rfl, hs, hb⟩
        obtain ⟨B, hBe⟩ : ∃ B, B = w2.heap.size := ⟨_, rfl⟩
        rw [← hBe] at hs
        have HF8 := Lib.hid (blk_below HF6.out hb)
        have hk9 : w.heap.size < B := by rw [hBe]; exact lt_of_block HF6.out
        have HB10 := Lib.hid (HB7.out.trans (hb.mono HB7.out.size))
        have hBw : w.heap.size ≤ B := by rw [hBe]; exact HB7.out.size
        have HBE := Lib.hid hBe
        have HS11 := Lib.hid hs
        clear hb hs hBe HB7 HF6
        rw [← HBE.out]
        go_wp2_with fail
        refine (HFX.out w3 _ HS11.out).mono ?_
        rintro e w4 ⟨rfl, hs, hk⟩
        have HF12 := Lib.hid (blk_but HF8.out hk (by omega))
        have HB13 := Lib.hid (But.below HB10.out hk hBw HB10.out.size)
        have HS14 := Lib.hid hs
        clear hs hk HB10 HS11 HF8
        go_wp2_with fail
        refine (HRD.out w4 _ HS14.out).mono ?_
        rintro e w5 ⟨rfl, hs, hk⟩
        have HF15 := Lib.hid (blk_but HF12.out hk (by omega))
        have HB16 := Lib.hid (But.below HB13.out hk hBw HB13.out.size)
        have HS17 := Lib.hid hs
        clear hs hk HB13 HS14 HF12
        have hk18 : B < w5.heap.size := HS17.out.lt
        have HF19 := Lib.hid (blk_alloc HF15.out (.cells #[.int .i64 a, .int .i64 b, .int .i64 k, .string x, .string o, .string n, .int .i64 t, .int .i64 u] 42 (0, 0)))
        have HF20 := Lib.hid (blk_new w5 (.cells #[.int .i64 a, .int .i64 b, .int .i64 k, .string x, .string o, .string n, .int .i64 t, .int .i64 u] 42 (0, 0)))
        have HB21 := Lib.hid (HB16.out.alloc HB16.out.size (.cells #[.int .i64 a, .int .i64 b, .int .i64 k, .string x, .string o, .string n, .int .i64 t, .int .i64 u] 42 (0, 0)))
        clear HB16
        have HS22 := Lib.hid (HS17.out.alloc (.cells #[.int .i64 a, .int .i64 b, .int .i64 k, .string x, .string o, .string n, .int .i64 t, .int .i64 u] 42 (0, 0)))
        clear HS17
        go_wp2_with fail
        refine (HEN.out (w5.alloc (.cells #[.int .i64 a, .int .i64 b, .int .i64 k, .string x, .string o, .string n, .int .i64 t, .int .i64 u] 42 (0, 0))) _ HS22.out).mono ?_
        rintro e w6 ⟨rfl, hs, hk⟩
        have HF23 := Lib.hid (blk_but HF19.out hk (by omega))
        have HF24 := Lib.hid (blk_but HF20.out hk (by omega))
        have HB25 := Lib.hid (But.below HB21.out hk hBw HB21.out.size)
        have HS26 := Lib.hid hs
        clear hs hk HB21 HS22 HF19 HF15 HF20
        have hc27 : w6.cell? ⟨w5.heap.size, 0, none⟩ = some (.int .i64 a) := by rw [cell_of_row _ _ _ _ _ _ HF24.out]; rfl
        have hc28 : w6.cell? ⟨w5.heap.size, 1, none⟩ = some (.int .i64 b) := by rw [cell_of_row _ _ _ _ _ _ HF24.out]; rfl
        have hc29 : w6.cell? ⟨w5.heap.size, 2, none⟩ = some (.int .i64 k) := by rw [cell_of_row _ _ _ _ _ _ HF24.out]; rfl
        have hc30 : w6.cell? ⟨w5.heap.size, 3, none⟩ = some (.string x) := by rw [cell_of_row _ _ _ _ _ _ HF24.out]; rfl
        have hc31 : w6.cell? ⟨w5.heap.size, 4, none⟩ = some (.string o) := by rw [cell_of_row _ _ _ _ _ _ HF24.out]; rfl
        have hc32 : w6.cell? ⟨w5.heap.size, 5, none⟩ = some (.string n) := by rw [cell_of_row _ _ _ _ _ _ HF24.out]; rfl
        have hc33 : w6.cell? ⟨w5.heap.size, 6, none⟩ = some (.int .i64 t) := by rw [cell_of_row _ _ _ _ _ _ HF24.out]; rfl
        have hc34 : w6.cell? ⟨w5.heap.size, 7, none⟩ = some (.int .i64 u) := by rw [cell_of_row _ _ _ _ _ _ HF24.out]; rfl
        go_wp2_with fail
        refine (HCK.out w6).mono ?_
        rintro e w7 ⟨rfl, hb7⟩
        clear hc27 hc28 hc29 hc30 hc31 hc32 hc33 hc34
        have HF35 := Lib.hid (blk_below HF23.out hb7)
        have HF36 := Lib.hid (blk_below HF24.out hb7)
        have HB37 := Lib.hid (HB25.out.trans (hb7.mono HB25.out.size))
        have HS38 := Lib.hid (HS26.out.kept (hb7.block B HS26.out.lt))
        clear hb7 HB25 HS26 HF23 HF24
        go_wp2_with (first
          | refine wpList_store_rowY rfl 42 (.tmp 2) (.tmp 43) rfl (w.heap.size) #[.int .i64 0, .int .i64 0, .int .i64 0, .string ⟨#[]⟩, .string ⟨#[]⟩, .string ⟨#[]⟩, .int .i64 0, .int .i64 0] rfl rfl 42 _ HF35.out (info_rec _ _ _ _ _ _ _ _) rfl (one_rec _ _ _ _ _ _ _ _) w.heap.size w HB37.out (by omega) ?_)
        intro W8 hbk hoth hbel _
        have HF39 := Lib.hid hbk.out
        have HF40 := Lib.hid (blk_oth HF36.out hoth.out (by omega))
        have HB41 := Lib.hid hbel.out
        have HS42 := Lib.hid (HS38.out.kept (hoth.out B (by omega)))
        clear hbk hoth hbel HB37 HS38 HF35 HF36
        go_wp2_with fail
        refine bodyPost_ret (results_ctY rfl _ _ (w.heap.size) #[.int .i64 0, .int .i64 0, .int .i64 0, .string ⟨#[]⟩, .string ⟨#[]⟩, .string ⟨#[]⟩, .int .i64 0, .int .i64 0] rfl (run_loadVar_row _ (w.heap.size) 42 42 _ (0, 0) _ HF39.out Tryz.underlying42 rfl (info_rec _ _ _ _ _ _ _ _))) rfl ?_
        exact ⟨rfl, HB41.out⟩
      · have hn1 : (y == 0) = false := by rw [beq_eq_false_iff_ne]; exact hy0
        have hn2 : (y != 0) = true := by rw [bne, hn1]; rfl
        clear hU hz hUs hse hno hT hb hX hXs hf l0 h1 h2 h3 h4 h5 h6 h7 h8 l1 l2 l3 l4 l5 l6 l7 l8 hxs hrec hy hy0
        have HB1 := Lib.hid (Below.refl w.heap.size w)
        go_enter Tryz.func156, Tryz.ntmps156
        go_wp2_with fail
        have HF2 := Lib.hid (blk_new w (.cells #[.int .i64 0, .int .i64 0, .int .i64 0, .string ⟨#[]⟩, .string ⟨#[]⟩, .string ⟨#[]⟩, .int .i64 0, .int .i64 0] 42 (0, 0)))
        have HB3 := Lib.hid (HB1.out.alloc HB1.out.size (.cells #[.int .i64 0, .int .i64 0, .int .i64 0, .string ⟨#[]⟩, .string ⟨#[]⟩, .string ⟨#[]⟩, .int .i64 0, .int .i64 0] 42 (0, 0)))
        clear HB1
        refine (HBR.out (w.alloc (.cells #[.int .i64 0, .int .i64 0, .int .i64 0, .string ⟨#[]⟩, .string ⟨#[]⟩, .string ⟨#[]⟩, .int .i64 0, .int .i64 0] 42 (0, 0)))).mono ?_
        rintro e w1 ⟨rfl, hb1⟩
        have HF4 := Lib.hid (blk_below HF2.out hb1)
        have HB5 := Lib.hid (HB3.out.trans (hb1.mono HB3.out.size))
        clear hb1 HB3 HF2
        go_wp2_with fail
        refine (HOP.out w1 (HT.out.later HB5.out)).mono ?_
        rintro e w2 ⟨rfl, hb2⟩
        have HF6 := Lib.hid (blk_below HF4.out hb2)
        have HB7 := Lib.hid (HB5.out.trans (hb2.mono HB5.out.size))
        clear hb2 HB5 HF4
        go_wp2_with fail
        refine (new_any _ w2).mono ?_
        rintro e w3 ⟨rfl, hs, hb⟩
        obtain ⟨B, hBe⟩ : ∃ B, B = w2.heap.size := ⟨_, rfl⟩
        rw [← hBe] at hs
        have HF8 := Lib.hid (blk_below HF6.out hb)
        have hk9 : w.heap.size < B := by rw [hBe]; exact lt_of_block HF6.out
        have HB10 := Lib.hid (HB7.out.trans (hb.mono HB7.out.size))
        have hBw : w.heap.size ≤ B := by rw [hBe]; exact HB7.out.size
        have HBE := Lib.hid hBe
        have HS11 := Lib.hid hs
        clear hb hs hBe HB7 HF6
        rw [← HBE.out]
        go_wp2_with fail
        refine (HFX.out w3 _ HS11.out).mono ?_
        rintro e w4 ⟨rfl, hs, hk⟩
        have HF12 := Lib.hid (blk_but HF8.out hk (by omega))
        have HB13 := Lib.hid (But.below HB10.out hk hBw HB10.out.size)
        have HS14 := Lib.hid hs
        clear hs hk HB10 HS11 HF8
        go_wp2_with fail
        refine (HRD.out w4 _ HS14.out).mono ?_
        rintro e w5 ⟨rfl, hs, hk⟩
        have HF15 := Lib.hid (blk_but HF12.out hk (by omega))
        have HB16 := Lib.hid (But.below HB13.out hk hBw HB13.out.size)
        have HS17 := Lib.hid hs
        clear hs hk HB13 HS14 HF12
        have hk18 : B < w5.heap.size := HS17.out.lt
        have HF19 := Lib.hid (blk_alloc HF15.out (.cells #[.int .i64 a, .int .i64 b, .int .i64 k, .string x, .string o, .string n, .int .i64 t, .int .i64 u] 42 (0, 0)))
        have HF20 := Lib.hid (blk_new w5 (.cells #[.int .i64 a, .int .i64 b, .int .i64 k, .string x, .string o, .string n, .int .i64 t, .int .i64 u] 42 (0, 0)))
        have HB21 := Lib.hid (HB16.out.alloc HB16.out.size (.cells #[.int .i64 a, .int .i64 b, .int .i64 k, .string x, .string o, .string n, .int .i64 t, .int .i64 u] 42 (0, 0)))
        clear HB16
        have HS22 := Lib.hid (HS17.out.alloc (.cells #[.int .i64 a, .int .i64 b, .int .i64 k, .string x, .string o, .string n, .int .i64 t, .int .i64 u] 42 (0, 0)))
        clear HS17
        go_wp2_with fail
        refine (HEN.out (w5.alloc (.cells #[.int .i64 a, .int .i64 b, .int .i64 k, .string x, .string o, .string n, .int .i64 t, .int .i64 u] 42 (0, 0))) _ HS22.out).mono ?_
        rintro e w6 ⟨rfl, hs, hk⟩
        have HF23 := Lib.hid (blk_but HF19.out hk (by omega))
        have HF24 := Lib.hid (blk_but HF20.out hk (by omega))
        have HB25 := Lib.hid (But.below HB21.out hk hBw HB21.out.size)
        have HS26 := Lib.hid hs
        clear hs hk HB21 HS22 HF19 HF15 HF20
        go_wp2_with (first
          | refine wpList_store_rowY rfl 42 (.tmp 2) (.tmp 43) rfl (w.heap.size) #[.int .i64 0, .int .i64 0, .int .i64 0, .string ⟨#[]⟩, .string ⟨#[]⟩, .string ⟨#[]⟩, .int .i64 0, .int .i64 0] rfl rfl 42 _ HF23.out (info_rec _ _ _ _ _ _ _ _) rfl (one_rec _ _ _ _ _ _ _ _) w.heap.size w HB25.out (by omega) ?_)
        intro W7 hbk hoth hbel _
        have HF27 := Lib.hid hbk.out
        have HF28 := Lib.hid (blk_oth HF24.out hoth.out (by omega))
        have HB29 := Lib.hid hbel.out
        have HS30 := Lib.hid (HS26.out.kept (hoth.out B (by omega)))
        clear hbk hoth hbel HB25 HS26 HF23 HF24
        go_wp2_with fail
        refine bodyPost_ret (results_ctY rfl _ _ (w.heap.size) #[.int .i64 0, .int .i64 0, .int .i64 0, .string ⟨#[]⟩, .string ⟨#[]⟩, .string ⟨#[]⟩, .int .i64 0, .int .i64 0] rfl (run_loadVar_row _ (w.heap.size) 42 42 _ (0, 0) _ HF27.out Tryz.underlying42 rfl (info_rec _ _ _ _ _ _ _ _))) rfl ?_
        exact ⟨rfl, HB29.out⟩
    · have hn1 : (f.toList == [82]) = false := lstE_no hfs
      have hn2 : (f.toList != [82]) = true := by rw [bne, hn1]; rfl
      clear hU hz hUs hse hno hT hb hX hXs hf l0 hfs
      have HB1 := Lib.hid (Below.refl w.heap.size w)
      go_enter Tryz.func156, Tryz.ntmps156
      go_wp2_with fail
      have HF2 := Lib.hid (blk_new w (.cells #[.int .i64 0, .int .i64 0, .int .i64 0, .string ⟨#[]⟩, .string ⟨#[]⟩, .string ⟨#[]⟩, .int .i64 0, .int .i64 0] 42 (0, 0)))
      have HB3 := Lib.hid (HB1.out.alloc HB1.out.size (.cells #[.int .i64 0, .int .i64 0, .int .i64 0, .string ⟨#[]⟩, .string ⟨#[]⟩, .string ⟨#[]⟩, .int .i64 0, .int .i64 0] 42 (0, 0)))
      clear HB1
      refine (HBR.out (w.alloc (.cells #[.int .i64 0, .int .i64 0, .int .i64 0, .string ⟨#[]⟩, .string ⟨#[]⟩, .string ⟨#[]⟩, .int .i64 0, .int .i64 0] 42 (0, 0)))).mono ?_
      rintro e w1 ⟨rfl, hb1⟩
      have HF4 := Lib.hid (blk_below HF2.out hb1)
      have HB5 := Lib.hid (HB3.out.trans (hb1.mono HB3.out.size))
      clear hb1 HB3 HF2
      go_wp2_with fail
      refine (HOP.out w1 (HT.out.later HB5.out)).mono ?_
      rintro e w2 ⟨rfl, hb2⟩
      have HF6 := Lib.hid (blk_below HF4.out hb2)
      have HB7 := Lib.hid (HB5.out.trans (hb2.mono HB5.out.size))
      clear hb2 HB5 HF4
      go_wp2_with fail
      refine (new_any _ w2).mono ?_
      rintro e w3 ⟨rfl, hs, hb⟩
      obtain ⟨B, hBe⟩ : ∃ B, B = w2.heap.size := ⟨_, rfl⟩
      rw [← hBe] at hs
      have HF8 := Lib.hid (blk_below HF6.out hb)
      have hk9 : w.heap.size < B := by rw [hBe]; exact lt_of_block HF6.out
      have HB10 := Lib.hid (HB7.out.trans (hb.mono HB7.out.size))
      have hBw : w.heap.size ≤ B := by rw [hBe]; exact HB7.out.size
      have HBE := Lib.hid hBe
      have HS11 := Lib.hid hs
      clear hb hs hBe HB7 HF6
      rw [← HBE.out]
      go_wp2_with fail
      refine (HFX.out w3 _ HS11.out).mono ?_
      rintro e w4 ⟨rfl, hs, hk⟩
      have HF12 := Lib.hid (blk_but HF8.out hk (by omega))
      have HB13 := Lib.hid (But.below HB10.out hk hBw HB10.out.size)
      have HS14 := Lib.hid hs
      clear hs hk HB10 HS11 HF8
      go_wp2_with (first
        | refine wpList_store_rowY rfl 42 (.tmp 2) (.tmp 29) rfl (w.heap.size) #[.int .i64 0, .int .i64 0, .int .i64 0, .string ⟨#[]⟩, .string ⟨#[]⟩, .string ⟨#[]⟩, .int .i64 0, .int .i64 0] rfl rfl 42 _ HF12.out (info_rec _ _ _ _ _ _ _ _) rfl (one_rec _ _ _ _ _ _ _ _) w.heap.size w HB13.out (by omega) ?_)
      intro W5 hbk hoth hbel _
      have HF15 := Lib.hid hbk.out
      have HB16 := Lib.hid hbel.out
      have HS17 := Lib.hid (HS14.out.kept (hoth.out B (by omega)))
      clear hbk hoth hbel HB13 HS14 HF12
      go_wp2_with fail
      refine bodyPost_ret (results_ctY rfl _ _ (w.heap.size) #[.int .i64 0, .int .i64 0, .int .i64 0, .string ⟨#[]⟩, .string ⟨#[]⟩, .string ⟨#[]⟩, .int .i64 0, .int .i64 0] rfl (run_loadVar_row _ (w.heap.size) 42 42 _ (0, 0) _ HF15.out Tryz.underlying42 rfl (info_rec _ _ _ _ _ _ _ _))) rfl ?_
      exact ⟨rfl, HB16.out⟩
end Go.Proofs.YtiflieaemgamkaaGreatDoor

namespace Go.Proofs.YtiflieaemgamkaaGreatDoor
open Go.RowKit Vi Cm

theorem erput_no (a b k : Int) (x o n : ByteArray) (t u : Int) (w : World) (hx : x.size ≤ maxLen) (h : rok a b k x o n t u = false) :
    Calls Tryz.prog 51 #[.agg #[.int .i64 a, .int .i64 b, .int .i64 k, .string x, .string o, .string n, .int .i64 t, .int .i64 u]] w fun e w' => e = .returned (.tuple #[.string ⟨#[]⟩, .int .i64 2]) ∧ Below w.heap.size w w' := by
  have HCK := Lib.hid (fun W : World => rcheck_any a b k x o n t u W hx)
  rw [← errR_no h] at HCK
  clear h hx
  have HB1 := Lib.hid (Below.refl w.heap.size w)
  go_enter Tryz.func51, Tryz.ntmps51
  go_wp2_with fail
  have HF2 := Lib.hid (blk_new w (.cells #[.int .i64 a, .int .i64 b, .int .i64 k, .string x, .string o, .string n, .int .i64 t, .int .i64 u] 42 (0, 0)))
  have HB3 := Lib.hid (HB1.out.alloc HB1.out.size (.cells #[.int .i64 a, .int .i64 b, .int .i64 k, .string x, .string o, .string n, .int .i64 t, .int .i64 u] 42 (0, 0)))
  clear HB1
  refine (HCK.out (w.alloc (.cells #[.int .i64 a, .int .i64 b, .int .i64 k, .string x, .string o, .string n, .int .i64 t, .int .i64 u] 42 (0, 0)))).mono ?_
  rintro e w1 ⟨rfl, hb1⟩
  have HF4 := Lib.hid (blk_below HF2.out hb1)
  have HB5 := Lib.hid (HB3.out.trans (hb1.mono HB3.out.size))
  clear hb1 HB3 HF2
  go_wp2_with fail
  go_ret2
  exact ⟨rfl, HB5.out⟩
/-- what the document's Put answers -/
def recD (a b k : Int) (x o n : ByteArray) (t u : Int) : ByteArray := if rok a b k x o n t u = true then recS a b k x o n t u else ⟨#[]⟩
theorem body_flat (a b k : Int) (x o n : ByteArray) (t u : Int) : ((((((((⟨#[82]⟩ ++ pnb a) ++ pnb b) ++ pnb k) ++ ptxH x) ++ ptxH o) ++ ptxH n) ++ pnb t) ++ pnb u : ByteArray) = bodyR a b k x o n t u := by
  unfold bodyR
  simp only [catN, catT, app_emp, ByteArray.append_assoc]
set_option maxHeartbeats 4000000 in
set_option maxRecDepth 100000 in
theorem erputR_any (a b k : Int) (x o n : ByteArray) (t u : Int) (w : World) (hx : x.size ≤ maxLen) :
    Calls Tryz.prog 93 #[.agg #[.int .i64 a, .int .i64 b, .int .i64 k, .string x, .string o, .string n, .int .i64 t, .int .i64 u]] w fun e w' => e = .returned (.string (recD a b k x o n t u)) ∧ Below w.heap.size w w' := by
  have HIS := Lib.hid (fun W : World => ris_any a b k x o n t u W hx)
  cases h : rok a b k x o n t u with
  | false =>
    have HQ := Lib.hid (show (⟨#[]⟩ : ByteArray) = recD a b k x o n t u by unfold recD; rw [h]; rfl)
    rw [h] at HIS
    clear h hx
    have HB1 := Lib.hid (Below.refl w.heap.size w)
    go_enter Tryz.func93, Tryz.ntmps93
    go_wp2_with fail
    have HF2 := Lib.hid (blk_new w (.cells #[.int .i64 a, .int .i64 b, .int .i64 k, .string x, .string o, .string n, .int .i64 t, .int .i64 u] 42 (0, 0)))
    have HB3 := Lib.hid (HB1.out.alloc HB1.out.size (.cells #[.int .i64 a, .int .i64 b, .int .i64 k, .string x, .string o, .string n, .int .i64 t, .int .i64 u] 42 (0, 0)))
    clear HB1
    refine (HIS.out (w.alloc (.cells #[.int .i64 a, .int .i64 b, .int .i64 k, .string x, .string o, .string n, .int .i64 t, .int .i64 u] 42 (0, 0)))).mono ?_
    rintro e w1 ⟨rfl, hb1⟩
    have HF4 := Lib.hid (blk_below HF2.out hb1)
    have HB5 := Lib.hid (HB3.out.trans (hb1.mono HB3.out.size))
    clear hb1 HB3 HF2
    go_wp2_with fail
    go_ret
    exact ⟨retSY HQ.out, HB5.out⟩
  | true =>
    have HQ := Lib.hid (show fullS (ptxH (sealH (bodyR a b k x o n t u))) = recD a b k x o n t u by unfold recD; rw [if_pos h]; rfl)
    have bd := rok_bd h
    have bz := bodyR_size h
    have P0 := Lib.hid (fun W : World => (show Calls Tryz.prog 150 #[.int .i64 a] W fun e w' => e = .returned (.string (pnb a)) ∧ Below W.heap.size W w' from refPutNum_any a W (by omega)))
    have P1 := Lib.hid (fun W : World => (show Calls Tryz.prog 150 #[.int .i64 b] W fun e w' => e = .returned (.string (pnb b)) ∧ Below W.heap.size W w' from refPutNum_any b W (by omega)))
    have P2 := Lib.hid (fun W : World => (show Calls Tryz.prog 150 #[.int .i64 k] W fun e w' => e = .returned (.string (pnb k)) ∧ Below W.heap.size W w' from refPutNum_any k W (by omega)))
    have P3 := Lib.hid (fun W : World => (show Calls Tryz.prog 151 #[.string x] W fun e w' => e = .returned (.string (ptxH x)) ∧ Below W.heap.size W w' from refPutText_any x W (by omega)))
    have P4 := Lib.hid (fun W : World => (show Calls Tryz.prog 151 #[.string o] W fun e w' => e = .returned (.string (ptxH o)) ∧ Below W.heap.size W w' from refPutText_any o W (by omega)))
    have P5 := Lib.hid (fun W : World => (show Calls Tryz.prog 151 #[.string n] W fun e w' => e = .returned (.string (ptxH n)) ∧ Below W.heap.size W w' from refPutText_any n W (by omega)))
    have P6 := Lib.hid (fun W : World => (show Calls Tryz.prog 150 #[.int .i64 t] W fun e w' => e = .returned (.string (pnb t)) ∧ Below W.heap.size W w' from refPutNum_any t W (by omega)))
    have P7 := Lib.hid (fun W : World => (show Calls Tryz.prog 150 #[.int .i64 u] W fun e w' => e = .returned (.string (pnb u)) ∧ Below W.heap.size W w' from refPutNum_any u W (by omega)))
    have HSE := Lib.hid (fun W : World => rsealed_any (bodyR a b k x o n t u) W (by omega))
    generalize fullS (ptxH (sealH (bodyR a b k x o n t u))) = X at HQ HSE
    rw [← body_flat] at HSE
    have z0 := pnb_size a
    have z1 := pnb_size b
    have z2 := pnb_size k
    have z3 := ptxH_size x
    have z4 := ptxH_size o
    have z5 := ptxH_size n
    have z6 := pnb_size t
    have z7 := pnb_size u
    rw [h] at HIS
    generalize pnb a = p0 at P0 HSE z0
    generalize pnb b = p1 at P1 HSE z1
    generalize pnb k = p2 at P2 HSE z2
    generalize ptxH x = p3 at P3 HSE z3
    generalize ptxH o = p4 at P4 HSE z4
    generalize ptxH n = p5 at P5 HSE z5
    generalize pnb t = p6 at P6 HSE z6
    generalize pnb u = p7 at P7 HSE z7
    obtain ⟨s0, t0⟩ : ∃ s, s = (⟨#[82]⟩ ++ p0 : ByteArray) := ⟨_, rfl⟩
    obtain ⟨s1, t1⟩ : ∃ s, s = s0 ++ p1 := ⟨_, rfl⟩
    obtain ⟨s2, t2⟩ : ∃ s, s = s1 ++ p2 := ⟨_, rfl⟩
    obtain ⟨s3, t3⟩ : ∃ s, s = s2 ++ p3 := ⟨_, rfl⟩
    obtain ⟨s4, t4⟩ : ∃ s, s = s3 ++ p4 := ⟨_, rfl⟩
    obtain ⟨s5, t5⟩ : ∃ s, s = s4 ++ p5 := ⟨_, rfl⟩
    obtain ⟨s6, t6⟩ : ∃ s, s = s5 ++ p6 := ⟨_, rfl⟩
    obtain ⟨s7, t7⟩ : ∃ s, s = s6 ++ p7 := ⟨_, rfl⟩
    have y0 : s0.size = 1 + p0.size := by rw [t0, ByteArray.size_append]; rfl
    have y1 : s1.size = s0.size + p1.size := by rw [t1, ByteArray.size_append]
    have y2 : s2.size = s1.size + p2.size := by rw [t2, ByteArray.size_append]
    have y3 : s3.size = s2.size + p3.size := by rw [t3, ByteArray.size_append]
    have y4 : s4.size = s3.size + p4.size := by rw [t4, ByteArray.size_append]
    have y5 : s5.size = s4.size + p5.size := by rw [t5, ByteArray.size_append]
    have y6 : s6.size = s5.size + p6.size := by rw [t6, ByteArray.size_append]
    have y7 : s7.size = s6.size + p7.size := by rw [t7, ByteArray.size_append]
    have q0 : ∀ W, (Op.stringOp .add ⟨#[82]⟩ p0).run Tryz.prog W = .ok (.string s0) W := fun W => by rw [t0]; exact run_string_add_sum W _ _ (by show 1 + p0.size ≤ _; omega)
    have q1 : ∀ W, (Op.stringOp .add s0 p1).run Tryz.prog W = .ok (.string s1) W := fun W => by rw [t1]; exact run_string_add_sum W _ _ (by omega)
    have q2 : ∀ W, (Op.stringOp .add s1 p2).run Tryz.prog W = .ok (.string s2) W := fun W => by rw [t2]; exact run_string_add_sum W _ _ (by omega)
    have q3 : ∀ W, (Op.stringOp .add s2 p3).run Tryz.prog W = .ok (.string s3) W := fun W => by rw [t3]; exact run_string_add_sum W _ _ (by omega)
    have q4 : ∀ W, (Op.stringOp .add s3 p4).run Tryz.prog W = .ok (.string s4) W := fun W => by rw [t4]; exact run_string_add_sum W _ _ (by omega)
    have q5 : ∀ W, (Op.stringOp .add s4 p5).run Tryz.prog W = .ok (.string s5) W := fun W => by rw [t5]; exact run_string_add_sum W _ _ (by omega)
    have q6 : ∀ W, (Op.stringOp .add s5 p6).run Tryz.prog W = .ok (.string s6) W := fun W => by rw [t6]; exact run_string_add_sum W _ _ (by omega)
    have q7 : ∀ W, (Op.stringOp .add s6 p7).run Tryz.prog W = .ok (.string s7) W := fun W => by rw [t7]; exact run_string_add_sum W _ _ (by omega)
    rw [← t0, ← t1, ← t2, ← t3, ← t4, ← t5, ← t6, ← t7] at HSE
    clear h hx bd bz t0 t1 t2 t3 t4 t5 t6 t7 y0 y1 y2 y3 y4 y5 y6 y7 z0 z1 z2 z3 z4 z5 z6 z7
    have HB1 := Lib.hid (Below.refl w.heap.size w)
    go_enter Tryz.func93, Tryz.ntmps93
    go_wp2_with fail
    have HF2 := Lib.hid (blk_new w (.cells #[.int .i64 a, .int .i64 b, .int .i64 k, .string x, .string o, .string n, .int .i64 t, .int .i64 u] 42 (0, 0)))
    have HB3 := Lib.hid (HB1.out.alloc HB1.out.size (.cells #[.int .i64 a, .int .i64 b, .int .i64 k, .string x, .string o, .string n, .int .i64 t, .int .i64 u] 42 (0, 0)))
    clear HB1
    refine (HIS.out (w.alloc (.cells #[.int .i64 a, .int .i64 b, .int .i64 k, .string x, .string o, .string n, .int .i64 t, .int .i64 u] 42 (0, 0)))).mono ?_
    rintro e w1 ⟨rfl, hb1⟩
    have HF4 := Lib.hid (blk_below HF2.out hb1)
    have HB5 := Lib.hid (HB3.out.trans (hb1.mono HB3.out.size))
    clear hb1 HB3 HF2
    have hc6 : w1.cell? ⟨w.heap.size, 0, none⟩ = some (.int .i64 a) := by rw [cell_of_row _ _ _ _ _ _ HF4.out]; rfl
    have hc7 : w1.cell? ⟨w.heap.size, 1, none⟩ = some (.int .i64 b) := by rw [cell_of_row _ _ _ _ _ _ HF4.out]; rfl
    have hc8 : w1.cell? ⟨w.heap.size, 2, none⟩ = some (.int .i64 k) := by rw [cell_of_row _ _ _ _ _ _ HF4.out]; rfl
    go_wp2_with fail
    have hr9 := fun d os => cell_regrown hc6 d os
    have hr10 := fun d os => cell_regrown hc7 d os
    have hr11 := fun d os => cell_regrown hc8 d os
    refine wp_region_quiet_below (by kernel_rfl) (by kernel_rfl) ?_
    repeat (any_goals (first | go_big_quiet_step ((first | (first | (go_at_call 150; exact Calls.regrown_of (P0.out _)) | (go_at_call 150; exact Calls.regrown_of (P1.out _)) | (go_at_call 150; exact Calls.regrown_of (P2.out _))))) | quiet_step ((first | (first | (go_at_call 150; exact Calls.regrown_of (P0.out _)) | (go_at_call 150; exact Calls.regrown_of (P1.out _)) | (go_at_call 150; exact Calls.regrown_of (P2.out _)))))))
    refine wpQuiet_nil ?_
    intro w2 hw2
    have hb2 := below_anyY hw2
    clear hw2 hr9 hr10 hr11
    clear hc6 hc7 hc8
    have HF12 := Lib.hid (blk_below HF4.out hb2)
    have HB13 := Lib.hid (HB5.out.trans (hb2.mono HB5.out.size))
    clear hb2 HB5 HF4
    have hc14 : w2.cell? ⟨w.heap.size, 3, none⟩ = some (.string x) := by rw [cell_of_row _ _ _ _ _ _ HF12.out]; rfl
    have hc15 : w2.cell? ⟨w.heap.size, 4, none⟩ = some (.string o) := by rw [cell_of_row _ _ _ _ _ _ HF12.out]; rfl
    have hc16 : w2.cell? ⟨w.heap.size, 5, none⟩ = some (.string n) := by rw [cell_of_row _ _ _ _ _ _ HF12.out]; rfl
    go_wp2_with fail
    have hr17 := fun d os => cell_regrown hc14 d os
    have hr18 := fun d os => cell_regrown hc15 d os
    have hr19 := fun d os => cell_regrown hc16 d os
    refine wp_region_quiet_below (by kernel_rfl) (by kernel_rfl) ?_
    repeat (any_goals (first | go_big_quiet_step ((first | (first | (go_at_call 151; exact Calls.regrown_of (P3.out _)) | (go_at_call 151; exact Calls.regrown_of (P4.out _)) | (go_at_call 151; exact Calls.regrown_of (P5.out _))))) | quiet_step ((first | (first | (go_at_call 151; exact Calls.regrown_of (P3.out _)) | (go_at_call 151; exact Calls.regrown_of (P4.out _)) | (go_at_call 151; exact Calls.regrown_of (P5.out _)))))))
    refine wpQuiet_nil ?_
    intro w3 hw3
    have hb3 := below_anyY hw3
    clear hw3 hr17 hr18 hr19
    clear hc14 hc15 hc16
    have HF20 := Lib.hid (blk_below HF12.out hb3)
    have HB21 := Lib.hid (HB13.out.trans (hb3.mono HB13.out.size))
    clear hb3 HB13 HF12
    have hc22 : w3.cell? ⟨w.heap.size, 6, none⟩ = some (.int .i64 t) := by rw [cell_of_row _ _ _ _ _ _ HF20.out]; rfl
    have hc23 : w3.cell? ⟨w.heap.size, 7, none⟩ = some (.int .i64 u) := by rw [cell_of_row _ _ _ _ _ _ HF20.out]; rfl
    go_wp2_with fail
    have hr24 := fun d os => cell_regrown hc22 d os
    have hr25 := fun d os => cell_regrown hc23 d os
    refine wp_region_quiet_below (by kernel_rfl) (by kernel_rfl) ?_
    repeat (any_goals (first | go_big_quiet_step ((first | (first | (go_at_call 150; exact Calls.regrown_of (P6.out _)) | (go_at_call 150; exact Calls.regrown_of (P7.out _))) | (go_at_call 152; exact Calls.regrown_of (HSE.out _)))) | quiet_step ((first | (first | (go_at_call 150; exact Calls.regrown_of (P6.out _)) | (go_at_call 150; exact Calls.regrown_of (P7.out _))) | (go_at_call 152; exact Calls.regrown_of (HSE.out _))))))
    refine wpQuiet_nil ?_
    intro w4 hw4
    have hb4 := below_anyY hw4
    clear hw4 hr24 hr25
    clear hc22 hc23
    have HF26 := Lib.hid (blk_below HF20.out hb4)
    have HB27 := Lib.hid (HB21.out.trans (hb4.mono HB21.out.size))
    clear hb4 HB21 HF20
    go_wp2_with fail
    go_ret
    exact ⟨retSY HQ.out, HB27.out⟩
end Go.Proofs.YtiflieaemgamkaaGreatDoor

namespace Go.Proofs.YtiflieaemgamkaaGreatDoor
open Go.RowKit Cm

set_option maxHeartbeats 800000 in
set_option maxRecDepth 100000 in
theorem refOpen_any (t : ByteArray) (w : World) (hs : t.size ≤ 90000) :
    Calls Tryz.prog 144 #[.string t] w fun e w' => e = .returned (opened t) ∧ Below w.heap.size w w' := by
  by_cases h4 : (t.size : Int) < 4
  · have hse : sealed t = false := by
      unfold sealed; rw [decide_eq_false (by omega)]; rfl
    have hfin : opened t = .tuple #[.string ⟨#[]⟩, .bool false] := by unfold opened; rw [hse]; rfl
    have HF := Lib.hid hfin
    clear hfin hse
    have hd : decide ((t.size : Int) - 4 < 0) = true := by simp; omega
    have hd2 : decide ((t.size : Int) < 4) = true := by simp; omega
    have hd3 : decide (t.size < 4) = true := by simp; omega
    go_enter Tryz.func144, Tryz.ntmps144
    go_wp2_with fail
    refine wp_region_quiet_below (by kernel_rfl) (by kernel_rfl) ?_
    repeat (any_goals (first | go_big_quiet_step (fail) | quiet_step (fail)))
    refine wpQuiet_nil ?_
    intro w2 hw'
    have hb2 := below_any hw'
    clear hw'
    go_wp2
    go_ret2
    exact ⟨congrArg Ending.returned HF.out.symm, hb2⟩
  · have hes : (t.extract 0 (t.size - 4)).size ≤ 100000 := by rw [ByteArray.size_extract]; omega
    have hed : (t.extract 0 (t.size - 4)).data.toList = t.data.toList.take (t.size - 4) := Lib.extract_from_zero _ _
    have hee : (t.extract (t.size - 4) t.size).toList = t.data.toList.drop (t.size - 4) := by rw [ByteArray.toList_eq]; exact ext_dataC _ _
    have HED := Lib.hid hed
    have HEE := Lib.hid hee
    have hon := on_lt 0 (t.extract 0 (t.size - 4)).data.toList
    clear hed hee
    have hd : decide ((t.size : Int) - 4 < 0) = false := by simp; omega
    have hd2 : decide ((t.size : Int) < 4) = false := by simp; omega
    have hd3 : decide (t.size < 4) = false := by simp; omega
    have g1 : IntKind.i64.wrap ((t.size : Int) - 4) = (t.size : Int) - 4 := IntWalk.i64_in _ (by omega)
    have g2 : 0 ≤ (t.size : Int) - 4 := by omega
    have g3 : ((t.size : Int) - 4).toNat = t.size - 4 := by omega
    have g4 : (t.size : Int) - 4 ≤ t.size := by omega
    go_enter Tryz.func144, Tryz.ntmps144
    go_wp2_with fail
    refine wp_region_quiet_below (by kernel_rfl) (by kernel_rfl) ?_
    repeat (any_goals (first | go_big_quiet_step (first | (go_at_call 194; exact Calls.regrown_of (refOn_any 0 _ _ (by omega) hes)) | (go_at_call 193; exact Calls.regrown_of (refTail_any _ _ (on_lt _ _)))) | quiet_step (first | (go_at_call 194; exact Calls.regrown_of (refOn_any 0 _ _ (by omega) hes)) | (go_at_call 193; exact Calls.regrown_of (refTail_any _ _ (on_lt _ _))))))
    refine wpQuiet_nil ?_
    intro w2 hw'
    have hb2 := below_any hw'
    clear hw'
    go_wp2
    · have hq : (!tl (on 0 (List.take (t.size - 4) t.data.toList)) == (t.extract (t.size - 4) t.size).toList) = true := by assumption
      rw [HEE.out] at hq
      have hse : sealed t = false := by
        unfold sealed; rw [Bool.and_eq_false_iff]; right; rw [beq_eq_false_iff_ne]; intro e; rw [e] at hq; simp at hq
      have hfin : opened t = .tuple #[.string ⟨#[]⟩, .bool false] := by unfold opened; rw [hse]; rfl
      go_ret2
      exact ⟨congrArg Ending.returned hfin.symm, hb2⟩
    · have hq : (!tl (on 0 (List.take (t.size - 4) t.data.toList)) == (t.extract (t.size - 4) t.size).toList) = false := by assumption
      rw [HEE.out] at hq
      have hq2 : tl (on 0 (List.take (t.size - 4) t.data.toList)) = t.data.toList.drop (t.size - 4) := by simpa using hq
      have hse : sealed t = true := by
        unfold sealed; rw [decide_eq_true (by omega), Bool.true_and, hq2]; simp
      have hfin : opened t = .tuple #[.string (t.extract 0 (t.size - 4)), .bool true] := by unfold opened; rw [hse]; rfl
      go_ret2
      exact ⟨congrArg Ending.returned hfin.symm, hb2⟩

theorem aw_seal : (ByteArray.mk #[97, 98] ++ ByteArray.mk (tl (on 0 (ByteArray.mk #[97, 98]).data.toList)).toArray) = ByteArray.mk #[97, 98, 109, 72, 131, 158] := by decide +kernel
theorem aw_open : opened (ByteArray.mk #[97, 98, 109, 72, 131, 158]) = .tuple #[.string ⟨#[97, 98]⟩, .bool true] := by
  have h : sealed (ByteArray.mk #[97, 98, 109, 72, 131, 158]) = true := by decide +kernel
  unfold opened; rw [h]; rfl
theorem aw_sum : on 0 (flatB [ByteArray.mk #[49, 50, 51, 52, 53, 54, 55, 56, 57]]) = 3421780262 := by decide +kernel

end Go.Proofs.YtiflieaemgamkaaGreatDoor

namespace Go.Proofs.YtiflieaemgamkaaGreatDoor
open Go.RowKit Vi Cm

theorem info_scE (a b c : Value) : (Tryz.prog.info? 213).map (·.size) = some (#[a, b, c] : Array Value).size := by kernel_rfl
theorem one_scE (S : ByteArray) (x y : Int) : (#[.string S, .int .i64 x, .int .i64 y] : Array Value).all (·.oneCell') = true := by simp [Value.oneCell']
theorem rnumE (S : ByteArray) (q : Nat) (er n v : Int) (q' : Nat) (e' : Int) (w : World) (hS : S.size ≤ 1000000) (hq : q ≤ S.size) (h0 : 0 ≤ n) (h1 : n ≤ 4294967296) (h : Rd.num S q er n = (v, q', e')) :
    Calls Tryz.prog 145 #[.agg #[.string S, .int .i64 (q : Int), .int .i64 er], .int .i64 n] w fun e w' => e = .returned (.tuple #[.agg #[.string S, .int .i64 (q' : Int), .int .i64 e'], .int .i64 v]) ∧ Below w.heap.size w w' := by
  have h1 := rNum_any S q er n w hS hq (by omega) (by omega)
  rw [h] at h1
  exact h1
theorem rtextE (S : ByteArray) (q : Nat) (er n : Int) (v : ByteArray) (q' : Nat) (e' : Int) (w : World) (hS : S.size ≤ 1000000) (hq : q ≤ S.size) (h0 : 0 ≤ n) (h1 : n ≤ 4294967296) (h : Rd.text S q er n = (v, q', e')) :
    Calls Tryz.prog 146 #[.agg #[.string S, .int .i64 (q : Int), .int .i64 er], .int .i64 n] w fun e w' => e = .returned (.tuple #[.agg #[.string S, .int .i64 (q' : Int), .int .i64 e'], .string v]) ∧ Below w.heap.size w w' := by
  have h1 := rText_any S q er n w hS hq (by omega) (by omega)
  rw [h] at h1
  exact h1
theorem lstE2_yes {a b : ByteArray} (h : a = b) : (a.toList == b.toList) = true := by rw [h]; simp
theorem lstE2_no {a b : ByteArray} (h : a ≠ b) : (a.toList == b.toList) = false := by
  rw [beq_eq_false_iff_ne, Lib.toList_data, Lib.toList_data]
  exact fun e => h (ba_ext e)
set_option maxHeartbeats 16000000 in
set_option maxRecDepth 100000 in
theorem ertake_yes (a b k : Int) (x o n : ByteArray) (t u : Int) (w : World) (h : rok a b k x o n t u = true) :
    Calls Tryz.prog 88 #[.string (recS a b k x o n t u)] w fun e w' => e = .returned (.tuple #[.agg (recV a b k x o n t u), .bool true]) ∧ Below w.heap.size w w' := by
  obtain ⟨f1, f2⟩ := rec_front h
  have hz := rec_size h
  have bd := rok_bd h
  have bz := bodyR_size h
  have HBR := Lib.hid (fun W : World => rbare_any (recS a b k x o n t u) W (by omega))
  unfold rbareV at HBR
  rw [f1, if_pos rfl, f2] at HBR
  have hsz := sealH_size (bodyR a b k x o n t u)
  have HOP := Lib.hid (fun (W : World) => refOpen_any (sealH (bodyR a b k x o n t u)) W (by omega))
  rw [opened_yesY _ (seal_is (bodyR a b k x o n t u)).1, (seal_is (bodyR a b k x o n t u)).2] at HOP
  obtain ⟨Y, hY⟩ : ∃ Y, (bodyR a b k x o n t u).extract 1 (bodyR a b k x o n t u).size = Y := ⟨_, rfl⟩
  have hYl : Y.data.toList = (bodyR a b k x o n t u).data.toList.drop 1 := by rw [← hY, ba_from]
  have hYs : Y.size ≤ 100 := by rw [← hY, ByteArray.size_extract]; omega
  obtain ⟨q1, q2, q3, q4, q5, q6, q7, q8, h1, h2, h3, h4, h5, h6, h7, h8, h9⟩ := rec_reads h Y 0 (fun a' b' k' t' u' p1 p2 p3 p4 p5 => by rw [List.drop_zero, hYl]; exact bodyR_tail a' b' k' t' u' p1 p2 p3 p4 p5) 4294967296 4294967296 4294967296 128 128 128 4294967296 4294967296 (by omega) (by omega) (by omega) (by omega) (by omega) (by omega) (by omega) (by omega) (by omega) (by omega) (by omega) (by omega) (by omega) (by omega) (by omega) (by omega)
  have l1 : q1 ≤ Y.size := by have := Rd.num_le Y 0 0 4294967296 (Nat.zero_le _); rw [h1] at this; exact this
  have l2 : q2 ≤ Y.size := by have := Rd.num_le Y q1 0 4294967296 l1; rw [h2] at this; exact this
  have l3 : q3 ≤ Y.size := by have := Rd.num_le Y q2 0 4294967296 l2; rw [h3] at this; exact this
  have l4 : q4 ≤ Y.size := by have := Rd.text_le Y q3 0 128 l3; rw [h4] at this; exact this
  have l5 : q5 ≤ Y.size := by have := Rd.text_le Y q4 0 128 l4; rw [h5] at this; exact this
  have l6 : q6 ≤ Y.size := by have := Rd.text_le Y q5 0 128 l5; rw [h6] at this; exact this
  have l7 : q7 ≤ Y.size := by have := Rd.num_le Y q6 0 4294967296 l6; rw [h7] at this; exact this
  have l8 : q8 ≤ Y.size := by have := Rd.num_le Y q7 0 4294967296 l7; rw [h8] at this; exact this
  have H1 := Lib.hid (fun W : World => rnumE Y 0 0 4294967296 _ _ _ W (by omega) (Nat.zero_le _) (by omega) (by omega) h1)
  have H2 := Lib.hid (fun W : World => rnumE Y q1 0 4294967296 _ _ _ W (by omega) l1 (by omega) (by omega) h2)
  have H3 := Lib.hid (fun W : World => rnumE Y q2 0 4294967296 _ _ _ W (by omega) l2 (by omega) (by omega) h3)
  have H4 := Lib.hid (fun W : World => rtextE Y q3 0 128 _ _ _ W (by omega) l3 (by omega) (by omega) h4)
  have H5 := Lib.hid (fun W : World => rtextE Y q4 0 128 _ _ _ W (by omega) l4 (by omega) (by omega) h5)
  have H6 := Lib.hid (fun W : World => rtextE Y q5 0 128 _ _ _ W (by omega) l5 (by omega) (by omega) h6)
  have H7 := Lib.hid (fun W : World => rnumE Y q6 0 4294967296 _ _ _ W (by omega) l6 (by omega) (by omega) h7)
  have H8 := Lib.hid (fun W : World => rnumE Y q7 0 4294967296 _ _ _ W (by omega) l7 (by omega) (by omega) h8)
  have HIS := Lib.hid (fun W : World => ris_any a b k x o n t u W (by unfold maxLen; omega))
  have HPU := Lib.hid (fun W : World => erputR_any a b k x o n t u W (by unfold maxLen; omega))
  unfold recD at HPU
  rw [if_pos h] at HPU
  rw [h] at HIS
  unfold recV
  have hXl : decide (((bodyR a b k x o n t u).size : Int) < 1) = false := decide_eq_false (by omega)
  have hXl2 : (1 : Int) ≤ ((bodyR a b k x o n t u).size : Int) := by omega
  generalize sealH (bodyR a b k x o n t u) = U at HBR HOP
  generalize recS a b k x o n t u = S at HBR HPU
  have hss : (S.toList == S.toList) = true := by simp
  have hss2 : (S.toList != S.toList) = false := by simp
  generalize bodyR a b k x o n t u = X at HOP hY hXl hXl2
  clear f1 f2 hz bd bz hsz hYl hYs h1 h2 h3 h4 h5 h6 h7 h8 h9 l1 l2 l3 l4 l5 l6 l7 l8 h
  have HB1 := Lib.hid (Below.refl w.heap.size w)
  go_enter Tryz.func88, Tryz.ntmps88
  go_wp2_with fail
  have HF2 := Lib.hid (blk_new w (.cells #[.int .i64 0, .int .i64 0, .int .i64 0, .string ⟨#[]⟩, .string ⟨#[]⟩, .string ⟨#[]⟩, .int .i64 0, .int .i64 0] 42 (0, 0)))
  have HB3 := Lib.hid (HB1.out.alloc HB1.out.size (.cells #[.int .i64 0, .int .i64 0, .int .i64 0, .string ⟨#[]⟩, .string ⟨#[]⟩, .string ⟨#[]⟩, .int .i64 0, .int .i64 0] 42 (0, 0)))
  clear HB1
  refine (HBR.out (w.alloc (.cells #[.int .i64 0, .int .i64 0, .int .i64 0, .string ⟨#[]⟩, .string ⟨#[]⟩, .string ⟨#[]⟩, .int .i64 0, .int .i64 0] 42 (0, 0)))).mono ?_
  rintro e w1 ⟨rfl, hb1⟩
  have HF4 := Lib.hid (blk_below HF2.out hb1)
  have HB5 := Lib.hid (HB3.out.trans (hb1.mono HB3.out.size))
  clear hb1 HB3 HF2
  go_wp2_with fail
  refine (HOP.out w1).mono ?_
  rintro e w2 ⟨rfl, hb2⟩
  have HF6 := Lib.hid (blk_below HF4.out hb2)
  have HB7 := Lib.hid (HB5.out.trans (hb2.mono HB5.out.size))
  clear hb2 HB5 HF4
  have hk8 : w.heap.size < w2.heap.size := lt_of_block HF6.out
  have HF9 := Lib.hid (blk_alloc HF6.out (.cells #[.int .i64 0, .int .i64 0, .int .i64 0, .string ⟨#[]⟩, .string ⟨#[]⟩, .string ⟨#[]⟩, .int .i64 0, .int .i64 0] 42 (0, 0)))
  have HF10 := Lib.hid (blk_new w2 (.cells #[.int .i64 0, .int .i64 0, .int .i64 0, .string ⟨#[]⟩, .string ⟨#[]⟩, .string ⟨#[]⟩, .int .i64 0, .int .i64 0] 42 (0, 0)))
  have HB11 := Lib.hid (HB7.out.alloc HB7.out.size (.cells #[.int .i64 0, .int .i64 0, .int .i64 0, .string ⟨#[]⟩, .string ⟨#[]⟩, .string ⟨#[]⟩, .int .i64 0, .int .i64 0] 42 (0, 0)))
  clear HB7
  have HF12 := Lib.hid (blk_alloc HF9.out (.cells #[.string Y, .int .i64 0, .int .i64 0] 213 (0, 0)))
  clear HF9
  have HF13 := Lib.hid (blk_alloc HF10.out (.cells #[.string Y, .int .i64 0, .int .i64 0] 213 (0, 0)))
  clear HF10
  have HF14 : Hid (((w2.alloc (.cells #[.int .i64 0, .int .i64 0, .int .i64 0, .string ⟨#[]⟩, .string ⟨#[]⟩, .string ⟨#[]⟩, .int .i64 0, .int .i64 0] 42 (0, 0))).alloc (.cells #[.string Y, .int .i64 0, .int .i64 0] 213 (0, 0))).heap[w2.heap.size + 1]? = some (.cells #[.string Y, .int .i64 0, .int .i64 0] 213 (0, 0))) := Lib.hid (blk_newN (W := (w2.alloc (.cells #[.int .i64 0, .int .i64 0, .int .i64 0, .string ⟨#[]⟩, .string ⟨#[]⟩, .string ⟨#[]⟩, .int .i64 0, .int .i64 0] 42 (0, 0)))) (o := (.cells #[.string Y, .int .i64 0, .int .i64 0] 213 (0, 0))) (by simp))
  have HB15 := Lib.hid (HB11.out.alloc (by have := HB11.out.size; simp at this ⊢ <;> omega) (.cells #[.string Y, .int .i64 0, .int .i64 0] 213 (0, 0)))
  clear HB11
  go_wp2_with fail
  refine (H1.out ((w2.alloc (.cells #[.int .i64 0, .int .i64 0, .int .i64 0, .string ⟨#[]⟩, .string ⟨#[]⟩, .string ⟨#[]⟩, .int .i64 0, .int .i64 0] 42 (0, 0))).alloc (.cells #[.string Y, .int .i64 0, .int .i64 0] 213 (0, 0)))).mono ?_
  rintro e w3 ⟨rfl, hb3⟩
  have HF16 := Lib.hid (blk_below HF12.out hb3)
  have HF17 := Lib.hid (blk_below HF13.out hb3)
  have HF18 := Lib.hid (blk_below HF14.out hb3)
  have HB19 := Lib.hid (HB15.out.trans (hb3.mono HB15.out.size))
  clear hb3 HB15 HF12 HF6 HF13 HF14
  go_wp2_with (first
    | refine wpList_store_rowY rfl 213 (.tmp 8) (.tmp 36) rfl (w2.heap.size + 1) #[.string Y, .int .i64 (q1 : Int), .int .i64 0] rfl rfl 213 _ HF18.out (info_scE _ _ _) rfl (one_scE _ _ _) w.heap.size w HB19.out (by omega) ?_)
  intro W4 hbk hoth hbel _
  have HF20 := Lib.hid (blk_oth HF16.out hoth.out (by omega))
  have HF21 := Lib.hid (blk_oth HF17.out hoth.out (by omega))
  have HF22 := Lib.hid hbk.out
  have HB23 := Lib.hid hbel.out
  clear hbk hoth hbel HB19  HF16 HF17 HF18
  have hc24 : W4.cell? ⟨w2.heap.size, 0, none⟩ = some (.int .i64 0) := by rw [cell_of_row _ _ _ _ _ _ HF21.out]; rfl
  have hc25 : W4.cell? ⟨w2.heap.size, 1, none⟩ = some (.int .i64 0) := by rw [cell_of_row _ _ _ _ _ _ HF21.out]; rfl
  have hc26 : W4.cell? ⟨w2.heap.size, 2, none⟩ = some (.int .i64 0) := by rw [cell_of_row _ _ _ _ _ _ HF21.out]; rfl
  have hc27 : W4.cell? ⟨w2.heap.size, 3, none⟩ = some (.string ⟨#[]⟩) := by rw [cell_of_row _ _ _ _ _ _ HF21.out]; rfl
  have hc28 : W4.cell? ⟨w2.heap.size, 4, none⟩ = some (.string ⟨#[]⟩) := by rw [cell_of_row _ _ _ _ _ _ HF21.out]; rfl
  have hc29 : W4.cell? ⟨w2.heap.size, 5, none⟩ = some (.string ⟨#[]⟩) := by rw [cell_of_row _ _ _ _ _ _ HF21.out]; rfl
  have hc30 : W4.cell? ⟨w2.heap.size, 6, none⟩ = some (.int .i64 0) := by rw [cell_of_row _ _ _ _ _ _ HF21.out]; rfl
  have hc31 : W4.cell? ⟨w2.heap.size, 7, none⟩ = some (.int .i64 0) := by rw [cell_of_row _ _ _ _ _ _ HF21.out]; rfl
  have hc32 : W4.cell? ⟨w2.heap.size + 1, 0, none⟩ = some (.string Y) := by rw [cell_of_row _ _ _ _ _ _ HF22.out]; rfl
  have hc33 : W4.cell? ⟨w2.heap.size + 1, 1, none⟩ = some (.int .i64 (q1 : Int)) := by rw [cell_of_row _ _ _ _ _ _ HF22.out]; rfl
  have hc34 : W4.cell? ⟨w2.heap.size + 1, 2, none⟩ = some (.int .i64 0) := by rw [cell_of_row _ _ _ _ _ _ HF22.out]; rfl
  have hz35 : W4.frozen? ⟨w2.heap.size, 0, none⟩ = false := frozen_of_row _ _ _ _ _ HF21.out
  have HF36 := Lib.hid (show (W4.setCell ⟨w2.heap.size, 0, none⟩ (.int .i64 a)).heap[w.heap.size]? = some (.cells #[.int .i64 0, .int .i64 0, .int .i64 0, .string ⟨#[]⟩, .string ⟨#[]⟩, .string ⟨#[]⟩, .int .i64 0, .int .i64 0] 42 (0, 0)) by rw [Below.heap_setCell _ _ _ _ (by show w.heap.size ≠ w2.heap.size; omega)]; exact HF20.out)
  have HF37 := Lib.hid (show (W4.setCell ⟨w2.heap.size, 0, none⟩ (.int .i64 a)).heap[w2.heap.size]? = some (.cells #[.int .i64 a, .int .i64 0, .int .i64 0, .string ⟨#[]⟩, .string ⟨#[]⟩, .string ⟨#[]⟩, .int .i64 0, .int .i64 0] 42 (0, 0)) by have h := heap_setCell_at (i := 0) (u := .int .i64 a) HF21.out; exact h)
  have HF38 := Lib.hid (show (W4.setCell ⟨w2.heap.size, 0, none⟩ (.int .i64 a)).heap[w2.heap.size + 1]? = some (.cells #[.string Y, .int .i64 (q1 : Int), .int .i64 0] 213 (0, 0)) by rw [Below.heap_setCell _ _ _ _ (by show w2.heap.size + 1 ≠ w2.heap.size; omega)]; exact HF22.out)
  have HB39 := Lib.hid (HB23.out.setCell (p := ⟨w2.heap.size, 0, none⟩) (by show w.heap.size ≤ w2.heap.size; omega) (.int .i64 a))
  have hc40 : (W4.setCell ⟨w2.heap.size, 0, none⟩ (.int .i64 a)).cell? ⟨w2.heap.size + 1, 0, none⟩ = some (.string Y) := by rw [cell_of_row _ _ _ _ _ _ HF38.out]; rfl
  have hc41 : (W4.setCell ⟨w2.heap.size, 0, none⟩ (.int .i64 a)).cell? ⟨w2.heap.size + 1, 1, none⟩ = some (.int .i64 (q1 : Int)) := by rw [cell_of_row _ _ _ _ _ _ HF38.out]; rfl
  have hc42 : (W4.setCell ⟨w2.heap.size, 0, none⟩ (.int .i64 a)).cell? ⟨w2.heap.size + 1, 2, none⟩ = some (.int .i64 0) := by rw [cell_of_row _ _ _ _ _ _ HF38.out]; rfl
  have hc43 : (W4.setCell ⟨w2.heap.size, 0, none⟩ (.int .i64 a)).cell? ⟨w2.heap.size, 0, none⟩ = some (.int .i64 a) := by rw [cell_of_row _ _ _ _ _ _ HF37.out]; rfl
  have hc44 : (W4.setCell ⟨w2.heap.size, 0, none⟩ (.int .i64 a)).cell? ⟨w2.heap.size, 1, none⟩ = some (.int .i64 0) := by rw [cell_of_row _ _ _ _ _ _ HF37.out]; rfl
  have hc45 : (W4.setCell ⟨w2.heap.size, 0, none⟩ (.int .i64 a)).cell? ⟨w2.heap.size, 2, none⟩ = some (.int .i64 0) := by rw [cell_of_row _ _ _ _ _ _ HF37.out]; rfl
  have hc46 : (W4.setCell ⟨w2.heap.size, 0, none⟩ (.int .i64 a)).cell? ⟨w2.heap.size, 3, none⟩ = some (.string ⟨#[]⟩) := by rw [cell_of_row _ _ _ _ _ _ HF37.out]; rfl
  have hc47 : (W4.setCell ⟨w2.heap.size, 0, none⟩ (.int .i64 a)).cell? ⟨w2.heap.size, 4, none⟩ = some (.string ⟨#[]⟩) := by rw [cell_of_row _ _ _ _ _ _ HF37.out]; rfl
  have hc48 : (W4.setCell ⟨w2.heap.size, 0, none⟩ (.int .i64 a)).cell? ⟨w2.heap.size, 5, none⟩ = some (.string ⟨#[]⟩) := by rw [cell_of_row _ _ _ _ _ _ HF37.out]; rfl
  have hc49 : (W4.setCell ⟨w2.heap.size, 0, none⟩ (.int .i64 a)).cell? ⟨w2.heap.size, 6, none⟩ = some (.int .i64 0) := by rw [cell_of_row _ _ _ _ _ _ HF37.out]; rfl
  have hc50 : (W4.setCell ⟨w2.heap.size, 0, none⟩ (.int .i64 a)).cell? ⟨w2.heap.size, 7, none⟩ = some (.int .i64 0) := by rw [cell_of_row _ _ _ _ _ _ HF37.out]; rfl
  go_wp2_with fail
  refine (H2.out (W4.setCell ⟨w2.heap.size, 0, none⟩ (.int .i64 a))).mono ?_
  rintro e w5 ⟨rfl, hb5⟩
  clear hc24 hc25 hc26 hc27 hc28 hc29 hc30 hc31 hc32 hc33 hc34 hz35 hc40 hc41 hc42 hc43 hc44 hc45 hc46 hc47 hc48 hc49 hc50
  have HF51 := Lib.hid (blk_below HF36.out hb5)
  have HF52 := Lib.hid (blk_below HF37.out hb5)
  have HF53 := Lib.hid (blk_below HF38.out hb5)
  have HB54 := Lib.hid (HB39.out.trans (hb5.mono HB39.out.size))
  clear hb5 HB39 HF36 HF37 HF38
  go_wp2_with (first
    | refine wpList_store_rowY rfl 213 (.tmp 8) (.tmp 42) rfl (w2.heap.size + 1) #[.string Y, .int .i64 (q2 : Int), .int .i64 0] rfl rfl 213 _ HF53.out (info_scE _ _ _) rfl (one_scE _ _ _) w.heap.size w HB54.out (by omega) ?_)
  intro W6 hbk hoth hbel _
  have HF55 := Lib.hid (blk_oth HF51.out hoth.out (by omega))
  have HF56 := Lib.hid (blk_oth HF52.out hoth.out (by omega))
  have HF57 := Lib.hid hbk.out
  have HB58 := Lib.hid hbel.out
  clear hbk hoth hbel HB54  HF51 HF52 HF53
  have hc59 : W6.cell? ⟨w2.heap.size, 0, none⟩ = some (.int .i64 a) := by rw [cell_of_row _ _ _ _ _ _ HF56.out]; rfl
  have hc60 : W6.cell? ⟨w2.heap.size, 1, none⟩ = some (.int .i64 0) := by rw [cell_of_row _ _ _ _ _ _ HF56.out]; rfl
  have hc61 : W6.cell? ⟨w2.heap.size, 2, none⟩ = some (.int .i64 0) := by rw [cell_of_row _ _ _ _ _ _ HF56.out]; rfl
  have hc62 : W6.cell? ⟨w2.heap.size, 3, none⟩ = some (.string ⟨#[]⟩) := by rw [cell_of_row _ _ _ _ _ _ HF56.out]; rfl
  have hc63 : W6.cell? ⟨w2.heap.size, 4, none⟩ = some (.string ⟨#[]⟩) := by rw [cell_of_row _ _ _ _ _ _ HF56.out]; rfl
  have hc64 : W6.cell? ⟨w2.heap.size, 5, none⟩ = some (.string ⟨#[]⟩) := by rw [cell_of_row _ _ _ _ _ _ HF56.out]; rfl
  have hc65 : W6.cell? ⟨w2.heap.size, 6, none⟩ = some (.int .i64 0) := by rw [cell_of_row _ _ _ _ _ _ HF56.out]; rfl
  have hc66 : W6.cell? ⟨w2.heap.size, 7, none⟩ = some (.int .i64 0) := by rw [cell_of_row _ _ _ _ _ _ HF56.out]; rfl
  have hc67 : W6.cell? ⟨w2.heap.size + 1, 0, none⟩ = some (.string Y) := by rw [cell_of_row _ _ _ _ _ _ HF57.out]; rfl
  have hc68 : W6.cell? ⟨w2.heap.size + 1, 1, none⟩ = some (.int .i64 (q2 : Int)) := by rw [cell_of_row _ _ _ _ _ _ HF57.out]; rfl
  have hc69 : W6.cell? ⟨w2.heap.size + 1, 2, none⟩ = some (.int .i64 0) := by rw [cell_of_row _ _ _ _ _ _ HF57.out]; rfl
  have hz70 : W6.frozen? ⟨w2.heap.size, 1, none⟩ = false := frozen_of_row _ _ _ _ _ HF56.out
  have HF71 := Lib.hid (show (W6.setCell ⟨w2.heap.size, 1, none⟩ (.int .i64 b)).heap[w.heap.size]? = some (.cells #[.int .i64 0, .int .i64 0, .int .i64 0, .string ⟨#[]⟩, .string ⟨#[]⟩, .string ⟨#[]⟩, .int .i64 0, .int .i64 0] 42 (0, 0)) by rw [Below.heap_setCell _ _ _ _ (by show w.heap.size ≠ w2.heap.size; omega)]; exact HF55.out)
  have HF72 := Lib.hid (show (W6.setCell ⟨w2.heap.size, 1, none⟩ (.int .i64 b)).heap[w2.heap.size]? = some (.cells #[.int .i64 a, .int .i64 b, .int .i64 0, .string ⟨#[]⟩, .string ⟨#[]⟩, .string ⟨#[]⟩, .int .i64 0, .int .i64 0] 42 (0, 0)) by have h := heap_setCell_at (i := 1) (u := .int .i64 b) HF56.out; exact h)
  have HF73 := Lib.hid (show (W6.setCell ⟨w2.heap.size, 1, none⟩ (.int .i64 b)).heap[w2.heap.size + 1]? = some (.cells #[.string Y, .int .i64 (q2 : Int), .int .i64 0] 213 (0, 0)) by rw [Below.heap_setCell _ _ _ _ (by show w2.heap.size + 1 ≠ w2.heap.size; omega)]; exact HF57.out)
  have HB74 := Lib.hid (HB58.out.setCell (p := ⟨w2.heap.size, 1, none⟩) (by show w.heap.size ≤ w2.heap.size; omega) (.int .i64 b))
  have hc75 : (W6.setCell ⟨w2.heap.size, 1, none⟩ (.int .i64 b)).cell? ⟨w2.heap.size + 1, 0, none⟩ = some (.string Y) := by rw [cell_of_row _ _ _ _ _ _ HF73.out]; rfl
  have hc76 : (W6.setCell ⟨w2.heap.size, 1, none⟩ (.int .i64 b)).cell? ⟨w2.heap.size + 1, 1, none⟩ = some (.int .i64 (q2 : Int)) := by rw [cell_of_row _ _ _ _ _ _ HF73.out]; rfl
  have hc77 : (W6.setCell ⟨w2.heap.size, 1, none⟩ (.int .i64 b)).cell? ⟨w2.heap.size + 1, 2, none⟩ = some (.int .i64 0) := by rw [cell_of_row _ _ _ _ _ _ HF73.out]; rfl
  have hc78 : (W6.setCell ⟨w2.heap.size, 1, none⟩ (.int .i64 b)).cell? ⟨w2.heap.size, 0, none⟩ = some (.int .i64 a) := by rw [cell_of_row _ _ _ _ _ _ HF72.out]; rfl
  have hc79 : (W6.setCell ⟨w2.heap.size, 1, none⟩ (.int .i64 b)).cell? ⟨w2.heap.size, 1, none⟩ = some (.int .i64 b) := by rw [cell_of_row _ _ _ _ _ _ HF72.out]; rfl
  have hc80 : (W6.setCell ⟨w2.heap.size, 1, none⟩ (.int .i64 b)).cell? ⟨w2.heap.size, 2, none⟩ = some (.int .i64 0) := by rw [cell_of_row _ _ _ _ _ _ HF72.out]; rfl
  have hc81 : (W6.setCell ⟨w2.heap.size, 1, none⟩ (.int .i64 b)).cell? ⟨w2.heap.size, 3, none⟩ = some (.string ⟨#[]⟩) := by rw [cell_of_row _ _ _ _ _ _ HF72.out]; rfl
  have hc82 : (W6.setCell ⟨w2.heap.size, 1, none⟩ (.int .i64 b)).cell? ⟨w2.heap.size, 4, none⟩ = some (.string ⟨#[]⟩) := by rw [cell_of_row _ _ _ _ _ _ HF72.out]; rfl
  have hc83 : (W6.setCell ⟨w2.heap.size, 1, none⟩ (.int .i64 b)).cell? ⟨w2.heap.size, 5, none⟩ = some (.string ⟨#[]⟩) := by rw [cell_of_row _ _ _ _ _ _ HF72.out]; rfl
  have hc84 : (W6.setCell ⟨w2.heap.size, 1, none⟩ (.int .i64 b)).cell? ⟨w2.heap.size, 6, none⟩ = some (.int .i64 0) := by rw [cell_of_row _ _ _ _ _ _ HF72.out]; rfl
  have hc85 : (W6.setCell ⟨w2.heap.size, 1, none⟩ (.int .i64 b)).cell? ⟨w2.heap.size, 7, none⟩ = some (.int .i64 0) := by rw [cell_of_row _ _ _ _ _ _ HF72.out]; rfl
  go_wp2_with fail
  refine (H3.out (W6.setCell ⟨w2.heap.size, 1, none⟩ (.int .i64 b))).mono ?_
  rintro e w7 ⟨rfl, hb7⟩
  clear hc59 hc60 hc61 hc62 hc63 hc64 hc65 hc66 hc67 hc68 hc69 hz70 hc75 hc76 hc77 hc78 hc79 hc80 hc81 hc82 hc83 hc84 hc85
  have HF86 := Lib.hid (blk_below HF71.out hb7)
  have HF87 := Lib.hid (blk_below HF72.out hb7)
  have HF88 := Lib.hid (blk_below HF73.out hb7)
  have HB89 := Lib.hid (HB74.out.trans (hb7.mono HB74.out.size))
  clear hb7 HB74 HF71 HF72 HF73
  go_wp2_with (first
    | refine wpList_store_rowY rfl 213 (.tmp 8) (.tmp 48) rfl (w2.heap.size + 1) #[.string Y, .int .i64 (q3 : Int), .int .i64 0] rfl rfl 213 _ HF88.out (info_scE _ _ _) rfl (one_scE _ _ _) w.heap.size w HB89.out (by omega) ?_)
  intro W8 hbk hoth hbel _
  have HF90 := Lib.hid (blk_oth HF86.out hoth.out (by omega))
  have HF91 := Lib.hid (blk_oth HF87.out hoth.out (by omega))
  have HF92 := Lib.hid hbk.out
  have HB93 := Lib.hid hbel.out
  clear hbk hoth hbel HB89  HF86 HF87 HF88
  have hc94 : W8.cell? ⟨w2.heap.size, 0, none⟩ = some (.int .i64 a) := by rw [cell_of_row _ _ _ _ _ _ HF91.out]; rfl
  have hc95 : W8.cell? ⟨w2.heap.size, 1, none⟩ = some (.int .i64 b) := by rw [cell_of_row _ _ _ _ _ _ HF91.out]; rfl
  have hc96 : W8.cell? ⟨w2.heap.size, 2, none⟩ = some (.int .i64 0) := by rw [cell_of_row _ _ _ _ _ _ HF91.out]; rfl
  have hc97 : W8.cell? ⟨w2.heap.size, 3, none⟩ = some (.string ⟨#[]⟩) := by rw [cell_of_row _ _ _ _ _ _ HF91.out]; rfl
  have hc98 : W8.cell? ⟨w2.heap.size, 4, none⟩ = some (.string ⟨#[]⟩) := by rw [cell_of_row _ _ _ _ _ _ HF91.out]; rfl
  have hc99 : W8.cell? ⟨w2.heap.size, 5, none⟩ = some (.string ⟨#[]⟩) := by rw [cell_of_row _ _ _ _ _ _ HF91.out]; rfl
  have hc100 : W8.cell? ⟨w2.heap.size, 6, none⟩ = some (.int .i64 0) := by rw [cell_of_row _ _ _ _ _ _ HF91.out]; rfl
  have hc101 : W8.cell? ⟨w2.heap.size, 7, none⟩ = some (.int .i64 0) := by rw [cell_of_row _ _ _ _ _ _ HF91.out]; rfl
  have hc102 : W8.cell? ⟨w2.heap.size + 1, 0, none⟩ = some (.string Y) := by rw [cell_of_row _ _ _ _ _ _ HF92.out]; rfl
  have hc103 : W8.cell? ⟨w2.heap.size + 1, 1, none⟩ = some (.int .i64 (q3 : Int)) := by rw [cell_of_row _ _ _ _ _ _ HF92.out]; rfl
  have hc104 : W8.cell? ⟨w2.heap.size + 1, 2, none⟩ = some (.int .i64 0) := by rw [cell_of_row _ _ _ _ _ _ HF92.out]; rfl
  have hz105 : W8.frozen? ⟨w2.heap.size, 2, none⟩ = false := frozen_of_row _ _ _ _ _ HF91.out
  have HF106 := Lib.hid (show (W8.setCell ⟨w2.heap.size, 2, none⟩ (.int .i64 k)).heap[w.heap.size]? = some (.cells #[.int .i64 0, .int .i64 0, .int .i64 0, .string ⟨#[]⟩, .string ⟨#[]⟩, .string ⟨#[]⟩, .int .i64 0, .int .i64 0] 42 (0, 0)) by rw [Below.heap_setCell _ _ _ _ (by show w.heap.size ≠ w2.heap.size; omega)]; exact HF90.out)
  have HF107 := Lib.hid (show (W8.setCell ⟨w2.heap.size, 2, none⟩ (.int .i64 k)).heap[w2.heap.size]? = some (.cells #[.int .i64 a, .int .i64 b, .int .i64 k, .string ⟨#[]⟩, .string ⟨#[]⟩, .string ⟨#[]⟩, .int .i64 0, .int .i64 0] 42 (0, 0)) by have h := heap_setCell_at (i := 2) (u := .int .i64 k) HF91.out; exact h)
  have HF108 := Lib.hid (show (W8.setCell ⟨w2.heap.size, 2, none⟩ (.int .i64 k)).heap[w2.heap.size + 1]? = some (.cells #[.string Y, .int .i64 (q3 : Int), .int .i64 0] 213 (0, 0)) by rw [Below.heap_setCell _ _ _ _ (by show w2.heap.size + 1 ≠ w2.heap.size; omega)]; exact HF92.out)
  have HB109 := Lib.hid (HB93.out.setCell (p := ⟨w2.heap.size, 2, none⟩) (by show w.heap.size ≤ w2.heap.size; omega) (.int .i64 k))
  have hc110 : (W8.setCell ⟨w2.heap.size, 2, none⟩ (.int .i64 k)).cell? ⟨w2.heap.size + 1, 0, none⟩ = some (.string Y) := by rw [cell_of_row _ _ _ _ _ _ HF108.out]; rfl
  have hc111 : (W8.setCell ⟨w2.heap.size, 2, none⟩ (.int .i64 k)).cell? ⟨w2.heap.size + 1, 1, none⟩ = some (.int .i64 (q3 : Int)) := by rw [cell_of_row _ _ _ _ _ _ HF108.out]; rfl
  have hc112 : (W8.setCell ⟨w2.heap.size, 2, none⟩ (.int .i64 k)).cell? ⟨w2.heap.size + 1, 2, none⟩ = some (.int .i64 0) := by rw [cell_of_row _ _ _ _ _ _ HF108.out]; rfl
  have hc113 : (W8.setCell ⟨w2.heap.size, 2, none⟩ (.int .i64 k)).cell? ⟨w2.heap.size, 0, none⟩ = some (.int .i64 a) := by rw [cell_of_row _ _ _ _ _ _ HF107.out]; rfl
  have hc114 : (W8.setCell ⟨w2.heap.size, 2, none⟩ (.int .i64 k)).cell? ⟨w2.heap.size, 1, none⟩ = some (.int .i64 b) := by rw [cell_of_row _ _ _ _ _ _ HF107.out]; rfl
  have hc115 : (W8.setCell ⟨w2.heap.size, 2, none⟩ (.int .i64 k)).cell? ⟨w2.heap.size, 2, none⟩ = some (.int .i64 k) := by rw [cell_of_row _ _ _ _ _ _ HF107.out]; rfl
  have hc116 : (W8.setCell ⟨w2.heap.size, 2, none⟩ (.int .i64 k)).cell? ⟨w2.heap.size, 3, none⟩ = some (.string ⟨#[]⟩) := by rw [cell_of_row _ _ _ _ _ _ HF107.out]; rfl
  have hc117 : (W8.setCell ⟨w2.heap.size, 2, none⟩ (.int .i64 k)).cell? ⟨w2.heap.size, 4, none⟩ = some (.string ⟨#[]⟩) := by rw [cell_of_row _ _ _ _ _ _ HF107.out]; rfl
  have hc118 : (W8.setCell ⟨w2.heap.size, 2, none⟩ (.int .i64 k)).cell? ⟨w2.heap.size, 5, none⟩ = some (.string ⟨#[]⟩) := by rw [cell_of_row _ _ _ _ _ _ HF107.out]; rfl
  have hc119 : (W8.setCell ⟨w2.heap.size, 2, none⟩ (.int .i64 k)).cell? ⟨w2.heap.size, 6, none⟩ = some (.int .i64 0) := by rw [cell_of_row _ _ _ _ _ _ HF107.out]; rfl
  have hc120 : (W8.setCell ⟨w2.heap.size, 2, none⟩ (.int .i64 k)).cell? ⟨w2.heap.size, 7, none⟩ = some (.int .i64 0) := by rw [cell_of_row _ _ _ _ _ _ HF107.out]; rfl
  go_wp2_with fail
  refine (H4.out (W8.setCell ⟨w2.heap.size, 2, none⟩ (.int .i64 k))).mono ?_
  rintro e w9 ⟨rfl, hb9⟩
  clear hc94 hc95 hc96 hc97 hc98 hc99 hc100 hc101 hc102 hc103 hc104 hz105 hc110 hc111 hc112 hc113 hc114 hc115 hc116 hc117 hc118 hc119 hc120
  have HF121 := Lib.hid (blk_below HF106.out hb9)
  have HF122 := Lib.hid (blk_below HF107.out hb9)
  have HF123 := Lib.hid (blk_below HF108.out hb9)
  have HB124 := Lib.hid (HB109.out.trans (hb9.mono HB109.out.size))
  clear hb9 HB109 HF106 HF107 HF108
  go_wp2_with (first
    | refine wpList_store_rowY rfl 213 (.tmp 8) (.tmp 54) rfl (w2.heap.size + 1) #[.string Y, .int .i64 (q4 : Int), .int .i64 0] rfl rfl 213 _ HF123.out (info_scE _ _ _) rfl (one_scE _ _ _) w.heap.size w HB124.out (by omega) ?_)
  intro W10 hbk hoth hbel _
  have HF125 := Lib.hid (blk_oth HF121.out hoth.out (by omega))
  have HF126 := Lib.hid (blk_oth HF122.out hoth.out (by omega))
  have HF127 := Lib.hid hbk.out
  have HB128 := Lib.hid hbel.out
  clear hbk hoth hbel HB124  HF121 HF122 HF123
  have hc129 : W10.cell? ⟨w2.heap.size, 0, none⟩ = some (.int .i64 a) := by rw [cell_of_row _ _ _ _ _ _ HF126.out]; rfl
  have hc130 : W10.cell? ⟨w2.heap.size, 1, none⟩ = some (.int .i64 b) := by rw [cell_of_row _ _ _ _ _ _ HF126.out]; rfl
  have hc131 : W10.cell? ⟨w2.heap.size, 2, none⟩ = some (.int .i64 k) := by rw [cell_of_row _ _ _ _ _ _ HF126.out]; rfl
  have hc132 : W10.cell? ⟨w2.heap.size, 3, none⟩ = some (.string ⟨#[]⟩) := by rw [cell_of_row _ _ _ _ _ _ HF126.out]; rfl
  have hc133 : W10.cell? ⟨w2.heap.size, 4, none⟩ = some (.string ⟨#[]⟩) := by rw [cell_of_row _ _ _ _ _ _ HF126.out]; rfl
  have hc134 : W10.cell? ⟨w2.heap.size, 5, none⟩ = some (.string ⟨#[]⟩) := by rw [cell_of_row _ _ _ _ _ _ HF126.out]; rfl
  have hc135 : W10.cell? ⟨w2.heap.size, 6, none⟩ = some (.int .i64 0) := by rw [cell_of_row _ _ _ _ _ _ HF126.out]; rfl
  have hc136 : W10.cell? ⟨w2.heap.size, 7, none⟩ = some (.int .i64 0) := by rw [cell_of_row _ _ _ _ _ _ HF126.out]; rfl
  have hc137 : W10.cell? ⟨w2.heap.size + 1, 0, none⟩ = some (.string Y) := by rw [cell_of_row _ _ _ _ _ _ HF127.out]; rfl
  have hc138 : W10.cell? ⟨w2.heap.size + 1, 1, none⟩ = some (.int .i64 (q4 : Int)) := by rw [cell_of_row _ _ _ _ _ _ HF127.out]; rfl
  have hc139 : W10.cell? ⟨w2.heap.size + 1, 2, none⟩ = some (.int .i64 0) := by rw [cell_of_row _ _ _ _ _ _ HF127.out]; rfl
  have hz140 : W10.frozen? ⟨w2.heap.size, 3, none⟩ = false := frozen_of_row _ _ _ _ _ HF126.out
  have HF141 := Lib.hid (show (W10.setCell ⟨w2.heap.size, 3, none⟩ (.string x)).heap[w.heap.size]? = some (.cells #[.int .i64 0, .int .i64 0, .int .i64 0, .string ⟨#[]⟩, .string ⟨#[]⟩, .string ⟨#[]⟩, .int .i64 0, .int .i64 0] 42 (0, 0)) by rw [Below.heap_setCell _ _ _ _ (by show w.heap.size ≠ w2.heap.size; omega)]; exact HF125.out)
  have HF142 := Lib.hid (show (W10.setCell ⟨w2.heap.size, 3, none⟩ (.string x)).heap[w2.heap.size]? = some (.cells #[.int .i64 a, .int .i64 b, .int .i64 k, .string x, .string ⟨#[]⟩, .string ⟨#[]⟩, .int .i64 0, .int .i64 0] 42 (0, 0)) by have h := heap_setCell_at (i := 3) (u := .string x) HF126.out; exact h)
  have HF143 := Lib.hid (show (W10.setCell ⟨w2.heap.size, 3, none⟩ (.string x)).heap[w2.heap.size + 1]? = some (.cells #[.string Y, .int .i64 (q4 : Int), .int .i64 0] 213 (0, 0)) by rw [Below.heap_setCell _ _ _ _ (by show w2.heap.size + 1 ≠ w2.heap.size; omega)]; exact HF127.out)
  have HB144 := Lib.hid (HB128.out.setCell (p := ⟨w2.heap.size, 3, none⟩) (by show w.heap.size ≤ w2.heap.size; omega) (.string x))
  have hc145 : (W10.setCell ⟨w2.heap.size, 3, none⟩ (.string x)).cell? ⟨w2.heap.size + 1, 0, none⟩ = some (.string Y) := by rw [cell_of_row _ _ _ _ _ _ HF143.out]; rfl
  have hc146 : (W10.setCell ⟨w2.heap.size, 3, none⟩ (.string x)).cell? ⟨w2.heap.size + 1, 1, none⟩ = some (.int .i64 (q4 : Int)) := by rw [cell_of_row _ _ _ _ _ _ HF143.out]; rfl
  have hc147 : (W10.setCell ⟨w2.heap.size, 3, none⟩ (.string x)).cell? ⟨w2.heap.size + 1, 2, none⟩ = some (.int .i64 0) := by rw [cell_of_row _ _ _ _ _ _ HF143.out]; rfl
  have hc148 : (W10.setCell ⟨w2.heap.size, 3, none⟩ (.string x)).cell? ⟨w2.heap.size, 0, none⟩ = some (.int .i64 a) := by rw [cell_of_row _ _ _ _ _ _ HF142.out]; rfl
  have hc149 : (W10.setCell ⟨w2.heap.size, 3, none⟩ (.string x)).cell? ⟨w2.heap.size, 1, none⟩ = some (.int .i64 b) := by rw [cell_of_row _ _ _ _ _ _ HF142.out]; rfl
  have hc150 : (W10.setCell ⟨w2.heap.size, 3, none⟩ (.string x)).cell? ⟨w2.heap.size, 2, none⟩ = some (.int .i64 k) := by rw [cell_of_row _ _ _ _ _ _ HF142.out]; rfl
  have hc151 : (W10.setCell ⟨w2.heap.size, 3, none⟩ (.string x)).cell? ⟨w2.heap.size, 3, none⟩ = some (.string x) := by rw [cell_of_row _ _ _ _ _ _ HF142.out]; rfl
  have hc152 : (W10.setCell ⟨w2.heap.size, 3, none⟩ (.string x)).cell? ⟨w2.heap.size, 4, none⟩ = some (.string ⟨#[]⟩) := by rw [cell_of_row _ _ _ _ _ _ HF142.out]; rfl
  have hc153 : (W10.setCell ⟨w2.heap.size, 3, none⟩ (.string x)).cell? ⟨w2.heap.size, 5, none⟩ = some (.string ⟨#[]⟩) := by rw [cell_of_row _ _ _ _ _ _ HF142.out]; rfl
  have hc154 : (W10.setCell ⟨w2.heap.size, 3, none⟩ (.string x)).cell? ⟨w2.heap.size, 6, none⟩ = some (.int .i64 0) := by rw [cell_of_row _ _ _ _ _ _ HF142.out]; rfl
  have hc155 : (W10.setCell ⟨w2.heap.size, 3, none⟩ (.string x)).cell? ⟨w2.heap.size, 7, none⟩ = some (.int .i64 0) := by rw [cell_of_row _ _ _ _ _ _ HF142.out]; rfl
  go_wp2_with fail
  refine (H5.out (W10.setCell ⟨w2.heap.size, 3, none⟩ (.string x))).mono ?_
  rintro e w11 ⟨rfl, hb11⟩
  clear hc129 hc130 hc131 hc132 hc133 hc134 hc135 hc136 hc137 hc138 hc139 hz140 hc145 hc146 hc147 hc148 hc149 hc150 hc151 hc152 hc153 hc154 hc155
  have HF156 := Lib.hid (blk_below HF141.out hb11)
  have HF157 := Lib.hid (blk_below HF142.out hb11)
  have HF158 := Lib.hid (blk_below HF143.out hb11)
  have HB159 := Lib.hid (HB144.out.trans (hb11.mono HB144.out.size))
  clear hb11 HB144 HF141 HF142 HF143
  go_wp2_with (first
    | refine wpList_store_rowY rfl 213 (.tmp 8) (.tmp 60) rfl (w2.heap.size + 1) #[.string Y, .int .i64 (q5 : Int), .int .i64 0] rfl rfl 213 _ HF158.out (info_scE _ _ _) rfl (one_scE _ _ _) w.heap.size w HB159.out (by omega) ?_)
  intro W12 hbk hoth hbel _
  have HF160 := Lib.hid (blk_oth HF156.out hoth.out (by omega))
  have HF161 := Lib.hid (blk_oth HF157.out hoth.out (by omega))
  have HF162 := Lib.hid hbk.out
  have HB163 := Lib.hid hbel.out
  clear hbk hoth hbel HB159  HF156 HF157 HF158
  have hc164 : W12.cell? ⟨w2.heap.size, 0, none⟩ = some (.int .i64 a) := by rw [cell_of_row _ _ _ _ _ _ HF161.out]; rfl
  have hc165 : W12.cell? ⟨w2.heap.size, 1, none⟩ = some (.int .i64 b) := by rw [cell_of_row _ _ _ _ _ _ HF161.out]; rfl
  have hc166 : W12.cell? ⟨w2.heap.size, 2, none⟩ = some (.int .i64 k) := by rw [cell_of_row _ _ _ _ _ _ HF161.out]; rfl
  have hc167 : W12.cell? ⟨w2.heap.size, 3, none⟩ = some (.string x) := by rw [cell_of_row _ _ _ _ _ _ HF161.out]; rfl
  have hc168 : W12.cell? ⟨w2.heap.size, 4, none⟩ = some (.string ⟨#[]⟩) := by rw [cell_of_row _ _ _ _ _ _ HF161.out]; rfl
  have hc169 : W12.cell? ⟨w2.heap.size, 5, none⟩ = some (.string ⟨#[]⟩) := by rw [cell_of_row _ _ _ _ _ _ HF161.out]; rfl
  have hc170 : W12.cell? ⟨w2.heap.size, 6, none⟩ = some (.int .i64 0) := by rw [cell_of_row _ _ _ _ _ _ HF161.out]; rfl
  have hc171 : W12.cell? ⟨w2.heap.size, 7, none⟩ = some (.int .i64 0) := by rw [cell_of_row _ _ _ _ _ _ HF161.out]; rfl
  have hc172 : W12.cell? ⟨w2.heap.size + 1, 0, none⟩ = some (.string Y) := by rw [cell_of_row _ _ _ _ _ _ HF162.out]; rfl
  have hc173 : W12.cell? ⟨w2.heap.size + 1, 1, none⟩ = some (.int .i64 (q5 : Int)) := by rw [cell_of_row _ _ _ _ _ _ HF162.out]; rfl
  have hc174 : W12.cell? ⟨w2.heap.size + 1, 2, none⟩ = some (.int .i64 0) := by rw [cell_of_row _ _ _ _ _ _ HF162.out]; rfl
  have hz175 : W12.frozen? ⟨w2.heap.size, 4, none⟩ = false := frozen_of_row _ _ _ _ _ HF161.out
  have HF176 := Lib.hid (show (W12.setCell ⟨w2.heap.size, 4, none⟩ (.string o)).heap[w.heap.size]? = some (.cells #[.int .i64 0, .int .i64 0, .int .i64 0, .string ⟨#[]⟩, .string ⟨#[]⟩, .string ⟨#[]⟩, .int .i64 0, .int .i64 0] 42 (0, 0)) by rw [Below.heap_setCell _ _ _ _ (by show w.heap.size ≠ w2.heap.size; omega)]; exact HF160.out)
  have HF177 := Lib.hid (show (W12.setCell ⟨w2.heap.size, 4, none⟩ (.string o)).heap[w2.heap.size]? = some (.cells #[.int .i64 a, .int .i64 b, .int .i64 k, .string x, .string o, .string ⟨#[]⟩, .int .i64 0, .int .i64 0] 42 (0, 0)) by have h := heap_setCell_at (i := 4) (u := .string o) HF161.out; exact h)
  have HF178 := Lib.hid (show (W12.setCell ⟨w2.heap.size, 4, none⟩ (.string o)).heap[w2.heap.size + 1]? = some (.cells #[.string Y, .int .i64 (q5 : Int), .int .i64 0] 213 (0, 0)) by rw [Below.heap_setCell _ _ _ _ (by show w2.heap.size + 1 ≠ w2.heap.size; omega)]; exact HF162.out)
  have HB179 := Lib.hid (HB163.out.setCell (p := ⟨w2.heap.size, 4, none⟩) (by show w.heap.size ≤ w2.heap.size; omega) (.string o))
  have hc180 : (W12.setCell ⟨w2.heap.size, 4, none⟩ (.string o)).cell? ⟨w2.heap.size + 1, 0, none⟩ = some (.string Y) := by rw [cell_of_row _ _ _ _ _ _ HF178.out]; rfl
  have hc181 : (W12.setCell ⟨w2.heap.size, 4, none⟩ (.string o)).cell? ⟨w2.heap.size + 1, 1, none⟩ = some (.int .i64 (q5 : Int)) := by rw [cell_of_row _ _ _ _ _ _ HF178.out]; rfl
  have hc182 : (W12.setCell ⟨w2.heap.size, 4, none⟩ (.string o)).cell? ⟨w2.heap.size + 1, 2, none⟩ = some (.int .i64 0) := by rw [cell_of_row _ _ _ _ _ _ HF178.out]; rfl
  have hc183 : (W12.setCell ⟨w2.heap.size, 4, none⟩ (.string o)).cell? ⟨w2.heap.size, 0, none⟩ = some (.int .i64 a) := by rw [cell_of_row _ _ _ _ _ _ HF177.out]; rfl
  have hc184 : (W12.setCell ⟨w2.heap.size, 4, none⟩ (.string o)).cell? ⟨w2.heap.size, 1, none⟩ = some (.int .i64 b) := by rw [cell_of_row _ _ _ _ _ _ HF177.out]; rfl
  have hc185 : (W12.setCell ⟨w2.heap.size, 4, none⟩ (.string o)).cell? ⟨w2.heap.size, 2, none⟩ = some (.int .i64 k) := by rw [cell_of_row _ _ _ _ _ _ HF177.out]; rfl
  have hc186 : (W12.setCell ⟨w2.heap.size, 4, none⟩ (.string o)).cell? ⟨w2.heap.size, 3, none⟩ = some (.string x) := by rw [cell_of_row _ _ _ _ _ _ HF177.out]; rfl
  have hc187 : (W12.setCell ⟨w2.heap.size, 4, none⟩ (.string o)).cell? ⟨w2.heap.size, 4, none⟩ = some (.string o) := by rw [cell_of_row _ _ _ _ _ _ HF177.out]; rfl
  have hc188 : (W12.setCell ⟨w2.heap.size, 4, none⟩ (.string o)).cell? ⟨w2.heap.size, 5, none⟩ = some (.string ⟨#[]⟩) := by rw [cell_of_row _ _ _ _ _ _ HF177.out]; rfl
  have hc189 : (W12.setCell ⟨w2.heap.size, 4, none⟩ (.string o)).cell? ⟨w2.heap.size, 6, none⟩ = some (.int .i64 0) := by rw [cell_of_row _ _ _ _ _ _ HF177.out]; rfl
  have hc190 : (W12.setCell ⟨w2.heap.size, 4, none⟩ (.string o)).cell? ⟨w2.heap.size, 7, none⟩ = some (.int .i64 0) := by rw [cell_of_row _ _ _ _ _ _ HF177.out]; rfl
  go_wp2_with fail
  refine (H6.out (W12.setCell ⟨w2.heap.size, 4, none⟩ (.string o))).mono ?_
  rintro e w13 ⟨rfl, hb13⟩
  clear hc164 hc165 hc166 hc167 hc168 hc169 hc170 hc171 hc172 hc173 hc174 hz175 hc180 hc181 hc182 hc183 hc184 hc185 hc186 hc187 hc188 hc189 hc190
  have HF191 := Lib.hid (blk_below HF176.out hb13)
  have HF192 := Lib.hid (blk_below HF177.out hb13)
  have HF193 := Lib.hid (blk_below HF178.out hb13)
  have HB194 := Lib.hid (HB179.out.trans (hb13.mono HB179.out.size))
  clear hb13 HB179 HF176 HF177 HF178
  go_wp2_with (first
    | refine wpList_store_rowY rfl 213 (.tmp 8) (.tmp 66) rfl (w2.heap.size + 1) #[.string Y, .int .i64 (q6 : Int), .int .i64 0] rfl rfl 213 _ HF193.out (info_scE _ _ _) rfl (one_scE _ _ _) w.heap.size w HB194.out (by omega) ?_)
  intro W14 hbk hoth hbel _
  have HF195 := Lib.hid (blk_oth HF191.out hoth.out (by omega))
  have HF196 := Lib.hid (blk_oth HF192.out hoth.out (by omega))
  have HF197 := Lib.hid hbk.out
  have HB198 := Lib.hid hbel.out
  clear hbk hoth hbel HB194  HF191 HF192 HF193
  have hc199 : W14.cell? ⟨w2.heap.size, 0, none⟩ = some (.int .i64 a) := by rw [cell_of_row _ _ _ _ _ _ HF196.out]; rfl
  have hc200 : W14.cell? ⟨w2.heap.size, 1, none⟩ = some (.int .i64 b) := by rw [cell_of_row _ _ _ _ _ _ HF196.out]; rfl
  have hc201 : W14.cell? ⟨w2.heap.size, 2, none⟩ = some (.int .i64 k) := by rw [cell_of_row _ _ _ _ _ _ HF196.out]; rfl
  have hc202 : W14.cell? ⟨w2.heap.size, 3, none⟩ = some (.string x) := by rw [cell_of_row _ _ _ _ _ _ HF196.out]; rfl
  have hc203 : W14.cell? ⟨w2.heap.size, 4, none⟩ = some (.string o) := by rw [cell_of_row _ _ _ _ _ _ HF196.out]; rfl
  have hc204 : W14.cell? ⟨w2.heap.size, 5, none⟩ = some (.string ⟨#[]⟩) := by rw [cell_of_row _ _ _ _ _ _ HF196.out]; rfl
  have hc205 : W14.cell? ⟨w2.heap.size, 6, none⟩ = some (.int .i64 0) := by rw [cell_of_row _ _ _ _ _ _ HF196.out]; rfl
  have hc206 : W14.cell? ⟨w2.heap.size, 7, none⟩ = some (.int .i64 0) := by rw [cell_of_row _ _ _ _ _ _ HF196.out]; rfl
  have hc207 : W14.cell? ⟨w2.heap.size + 1, 0, none⟩ = some (.string Y) := by rw [cell_of_row _ _ _ _ _ _ HF197.out]; rfl
  have hc208 : W14.cell? ⟨w2.heap.size + 1, 1, none⟩ = some (.int .i64 (q6 : Int)) := by rw [cell_of_row _ _ _ _ _ _ HF197.out]; rfl
  have hc209 : W14.cell? ⟨w2.heap.size + 1, 2, none⟩ = some (.int .i64 0) := by rw [cell_of_row _ _ _ _ _ _ HF197.out]; rfl
  have hz210 : W14.frozen? ⟨w2.heap.size, 5, none⟩ = false := frozen_of_row _ _ _ _ _ HF196.out
  have HF211 := Lib.hid (show (W14.setCell ⟨w2.heap.size, 5, none⟩ (.string n)).heap[w.heap.size]? = some (.cells #[.int .i64 0, .int .i64 0, .int .i64 0, .string ⟨#[]⟩, .string ⟨#[]⟩, .string ⟨#[]⟩, .int .i64 0, .int .i64 0] 42 (0, 0)) by rw [Below.heap_setCell _ _ _ _ (by show w.heap.size ≠ w2.heap.size; omega)]; exact HF195.out)
  have HF212 := Lib.hid (show (W14.setCell ⟨w2.heap.size, 5, none⟩ (.string n)).heap[w2.heap.size]? = some (.cells #[.int .i64 a, .int .i64 b, .int .i64 k, .string x, .string o, .string n, .int .i64 0, .int .i64 0] 42 (0, 0)) by have h := heap_setCell_at (i := 5) (u := .string n) HF196.out; exact h)
  have HF213 := Lib.hid (show (W14.setCell ⟨w2.heap.size, 5, none⟩ (.string n)).heap[w2.heap.size + 1]? = some (.cells #[.string Y, .int .i64 (q6 : Int), .int .i64 0] 213 (0, 0)) by rw [Below.heap_setCell _ _ _ _ (by show w2.heap.size + 1 ≠ w2.heap.size; omega)]; exact HF197.out)
  have HB214 := Lib.hid (HB198.out.setCell (p := ⟨w2.heap.size, 5, none⟩) (by show w.heap.size ≤ w2.heap.size; omega) (.string n))
  have hc215 : (W14.setCell ⟨w2.heap.size, 5, none⟩ (.string n)).cell? ⟨w2.heap.size + 1, 0, none⟩ = some (.string Y) := by rw [cell_of_row _ _ _ _ _ _ HF213.out]; rfl
  have hc216 : (W14.setCell ⟨w2.heap.size, 5, none⟩ (.string n)).cell? ⟨w2.heap.size + 1, 1, none⟩ = some (.int .i64 (q6 : Int)) := by rw [cell_of_row _ _ _ _ _ _ HF213.out]; rfl
  have hc217 : (W14.setCell ⟨w2.heap.size, 5, none⟩ (.string n)).cell? ⟨w2.heap.size + 1, 2, none⟩ = some (.int .i64 0) := by rw [cell_of_row _ _ _ _ _ _ HF213.out]; rfl
  have hc218 : (W14.setCell ⟨w2.heap.size, 5, none⟩ (.string n)).cell? ⟨w2.heap.size, 0, none⟩ = some (.int .i64 a) := by rw [cell_of_row _ _ _ _ _ _ HF212.out]; rfl
  have hc219 : (W14.setCell ⟨w2.heap.size, 5, none⟩ (.string n)).cell? ⟨w2.heap.size, 1, none⟩ = some (.int .i64 b) := by rw [cell_of_row _ _ _ _ _ _ HF212.out]; rfl
  have hc220 : (W14.setCell ⟨w2.heap.size, 5, none⟩ (.string n)).cell? ⟨w2.heap.size, 2, none⟩ = some (.int .i64 k) := by rw [cell_of_row _ _ _ _ _ _ HF212.out]; rfl
  have hc221 : (W14.setCell ⟨w2.heap.size, 5, none⟩ (.string n)).cell? ⟨w2.heap.size, 3, none⟩ = some (.string x) := by rw [cell_of_row _ _ _ _ _ _ HF212.out]; rfl
  have hc222 : (W14.setCell ⟨w2.heap.size, 5, none⟩ (.string n)).cell? ⟨w2.heap.size, 4, none⟩ = some (.string o) := by rw [cell_of_row _ _ _ _ _ _ HF212.out]; rfl
  have hc223 : (W14.setCell ⟨w2.heap.size, 5, none⟩ (.string n)).cell? ⟨w2.heap.size, 5, none⟩ = some (.string n) := by rw [cell_of_row _ _ _ _ _ _ HF212.out]; rfl
  have hc224 : (W14.setCell ⟨w2.heap.size, 5, none⟩ (.string n)).cell? ⟨w2.heap.size, 6, none⟩ = some (.int .i64 0) := by rw [cell_of_row _ _ _ _ _ _ HF212.out]; rfl
  have hc225 : (W14.setCell ⟨w2.heap.size, 5, none⟩ (.string n)).cell? ⟨w2.heap.size, 7, none⟩ = some (.int .i64 0) := by rw [cell_of_row _ _ _ _ _ _ HF212.out]; rfl
  go_wp2_with fail
  refine (H7.out (W14.setCell ⟨w2.heap.size, 5, none⟩ (.string n))).mono ?_
  rintro e w15 ⟨rfl, hb15⟩
  clear hc199 hc200 hc201 hc202 hc203 hc204 hc205 hc206 hc207 hc208 hc209 hz210 hc215 hc216 hc217 hc218 hc219 hc220 hc221 hc222 hc223 hc224 hc225
  have HF226 := Lib.hid (blk_below HF211.out hb15)
  have HF227 := Lib.hid (blk_below HF212.out hb15)
  have HF228 := Lib.hid (blk_below HF213.out hb15)
  have HB229 := Lib.hid (HB214.out.trans (hb15.mono HB214.out.size))
  clear hb15 HB214 HF211 HF212 HF213
  go_wp2_with (first
    | refine wpList_store_rowY rfl 213 (.tmp 8) (.tmp 72) rfl (w2.heap.size + 1) #[.string Y, .int .i64 (q7 : Int), .int .i64 0] rfl rfl 213 _ HF228.out (info_scE _ _ _) rfl (one_scE _ _ _) w.heap.size w HB229.out (by omega) ?_)
  intro W16 hbk hoth hbel _
  have HF230 := Lib.hid (blk_oth HF226.out hoth.out (by omega))
  have HF231 := Lib.hid (blk_oth HF227.out hoth.out (by omega))
  have HF232 := Lib.hid hbk.out
  have HB233 := Lib.hid hbel.out
  clear hbk hoth hbel HB229  HF226 HF227 HF228
  have hc234 : W16.cell? ⟨w2.heap.size, 0, none⟩ = some (.int .i64 a) := by rw [cell_of_row _ _ _ _ _ _ HF231.out]; rfl
  have hc235 : W16.cell? ⟨w2.heap.size, 1, none⟩ = some (.int .i64 b) := by rw [cell_of_row _ _ _ _ _ _ HF231.out]; rfl
  have hc236 : W16.cell? ⟨w2.heap.size, 2, none⟩ = some (.int .i64 k) := by rw [cell_of_row _ _ _ _ _ _ HF231.out]; rfl
  have hc237 : W16.cell? ⟨w2.heap.size, 3, none⟩ = some (.string x) := by rw [cell_of_row _ _ _ _ _ _ HF231.out]; rfl
  have hc238 : W16.cell? ⟨w2.heap.size, 4, none⟩ = some (.string o) := by rw [cell_of_row _ _ _ _ _ _ HF231.out]; rfl
  have hc239 : W16.cell? ⟨w2.heap.size, 5, none⟩ = some (.string n) := by rw [cell_of_row _ _ _ _ _ _ HF231.out]; rfl
  have hc240 : W16.cell? ⟨w2.heap.size, 6, none⟩ = some (.int .i64 0) := by rw [cell_of_row _ _ _ _ _ _ HF231.out]; rfl
  have hc241 : W16.cell? ⟨w2.heap.size, 7, none⟩ = some (.int .i64 0) := by rw [cell_of_row _ _ _ _ _ _ HF231.out]; rfl
  have hc242 : W16.cell? ⟨w2.heap.size + 1, 0, none⟩ = some (.string Y) := by rw [cell_of_row _ _ _ _ _ _ HF232.out]; rfl
  have hc243 : W16.cell? ⟨w2.heap.size + 1, 1, none⟩ = some (.int .i64 (q7 : Int)) := by rw [cell_of_row _ _ _ _ _ _ HF232.out]; rfl
  have hc244 : W16.cell? ⟨w2.heap.size + 1, 2, none⟩ = some (.int .i64 0) := by rw [cell_of_row _ _ _ _ _ _ HF232.out]; rfl
  have hz245 : W16.frozen? ⟨w2.heap.size, 6, none⟩ = false := frozen_of_row _ _ _ _ _ HF231.out
  have HF246 := Lib.hid (show (W16.setCell ⟨w2.heap.size, 6, none⟩ (.int .i64 t)).heap[w.heap.size]? = some (.cells #[.int .i64 0, .int .i64 0, .int .i64 0, .string ⟨#[]⟩, .string ⟨#[]⟩, .string ⟨#[]⟩, .int .i64 0, .int .i64 0] 42 (0, 0)) by rw [Below.heap_setCell _ _ _ _ (by show w.heap.size ≠ w2.heap.size; omega)]; exact HF230.out)
  have HF247 := Lib.hid (show (W16.setCell ⟨w2.heap.size, 6, none⟩ (.int .i64 t)).heap[w2.heap.size]? = some (.cells #[.int .i64 a, .int .i64 b, .int .i64 k, .string x, .string o, .string n, .int .i64 t, .int .i64 0] 42 (0, 0)) by have h := heap_setCell_at (i := 6) (u := .int .i64 t) HF231.out; exact h)
  have HF248 := Lib.hid (show (W16.setCell ⟨w2.heap.size, 6, none⟩ (.int .i64 t)).heap[w2.heap.size + 1]? = some (.cells #[.string Y, .int .i64 (q7 : Int), .int .i64 0] 213 (0, 0)) by rw [Below.heap_setCell _ _ _ _ (by show w2.heap.size + 1 ≠ w2.heap.size; omega)]; exact HF232.out)
  have HB249 := Lib.hid (HB233.out.setCell (p := ⟨w2.heap.size, 6, none⟩) (by show w.heap.size ≤ w2.heap.size; omega) (.int .i64 t))
  have hc250 : (W16.setCell ⟨w2.heap.size, 6, none⟩ (.int .i64 t)).cell? ⟨w2.heap.size + 1, 0, none⟩ = some (.string Y) := by rw [cell_of_row _ _ _ _ _ _ HF248.out]; rfl
  have hc251 : (W16.setCell ⟨w2.heap.size, 6, none⟩ (.int .i64 t)).cell? ⟨w2.heap.size + 1, 1, none⟩ = some (.int .i64 (q7 : Int)) := by rw [cell_of_row _ _ _ _ _ _ HF248.out]; rfl
  have hc252 : (W16.setCell ⟨w2.heap.size, 6, none⟩ (.int .i64 t)).cell? ⟨w2.heap.size + 1, 2, none⟩ = some (.int .i64 0) := by rw [cell_of_row _ _ _ _ _ _ HF248.out]; rfl
  have hc253 : (W16.setCell ⟨w2.heap.size, 6, none⟩ (.int .i64 t)).cell? ⟨w2.heap.size, 0, none⟩ = some (.int .i64 a) := by rw [cell_of_row _ _ _ _ _ _ HF247.out]; rfl
  have hc254 : (W16.setCell ⟨w2.heap.size, 6, none⟩ (.int .i64 t)).cell? ⟨w2.heap.size, 1, none⟩ = some (.int .i64 b) := by rw [cell_of_row _ _ _ _ _ _ HF247.out]; rfl
  have hc255 : (W16.setCell ⟨w2.heap.size, 6, none⟩ (.int .i64 t)).cell? ⟨w2.heap.size, 2, none⟩ = some (.int .i64 k) := by rw [cell_of_row _ _ _ _ _ _ HF247.out]; rfl
  have hc256 : (W16.setCell ⟨w2.heap.size, 6, none⟩ (.int .i64 t)).cell? ⟨w2.heap.size, 3, none⟩ = some (.string x) := by rw [cell_of_row _ _ _ _ _ _ HF247.out]; rfl
  have hc257 : (W16.setCell ⟨w2.heap.size, 6, none⟩ (.int .i64 t)).cell? ⟨w2.heap.size, 4, none⟩ = some (.string o) := by rw [cell_of_row _ _ _ _ _ _ HF247.out]; rfl
  have hc258 : (W16.setCell ⟨w2.heap.size, 6, none⟩ (.int .i64 t)).cell? ⟨w2.heap.size, 5, none⟩ = some (.string n) := by rw [cell_of_row _ _ _ _ _ _ HF247.out]; rfl
  have hc259 : (W16.setCell ⟨w2.heap.size, 6, none⟩ (.int .i64 t)).cell? ⟨w2.heap.size, 6, none⟩ = some (.int .i64 t) := by rw [cell_of_row _ _ _ _ _ _ HF247.out]; rfl
  have hc260 : (W16.setCell ⟨w2.heap.size, 6, none⟩ (.int .i64 t)).cell? ⟨w2.heap.size, 7, none⟩ = some (.int .i64 0) := by rw [cell_of_row _ _ _ _ _ _ HF247.out]; rfl
  go_wp2_with fail
  refine (H8.out (W16.setCell ⟨w2.heap.size, 6, none⟩ (.int .i64 t))).mono ?_
  rintro e w17 ⟨rfl, hb17⟩
  clear hc234 hc235 hc236 hc237 hc238 hc239 hc240 hc241 hc242 hc243 hc244 hz245 hc250 hc251 hc252 hc253 hc254 hc255 hc256 hc257 hc258 hc259 hc260
  have HF261 := Lib.hid (blk_below HF246.out hb17)
  have HF262 := Lib.hid (blk_below HF247.out hb17)
  have HF263 := Lib.hid (blk_below HF248.out hb17)
  have HB264 := Lib.hid (HB249.out.trans (hb17.mono HB249.out.size))
  clear hb17 HB249 HF246 HF247 HF248
  go_wp2_with (first
    | refine wpList_store_rowY rfl 213 (.tmp 8) (.tmp 78) rfl (w2.heap.size + 1) #[.string Y, .int .i64 (q8 : Int), .int .i64 0] rfl rfl 213 _ HF263.out (info_scE _ _ _) rfl (one_scE _ _ _) w.heap.size w HB264.out (by omega) ?_)
  intro W18 hbk hoth hbel _
  have HF265 := Lib.hid (blk_oth HF261.out hoth.out (by omega))
  have HF266 := Lib.hid (blk_oth HF262.out hoth.out (by omega))
  have HF267 := Lib.hid hbk.out
  have HB268 := Lib.hid hbel.out
  clear hbk hoth hbel HB264  HF261 HF262 HF263
  have hc269 : W18.cell? ⟨w2.heap.size, 0, none⟩ = some (.int .i64 a) := by rw [cell_of_row _ _ _ _ _ _ HF266.out]; rfl
  have hc270 : W18.cell? ⟨w2.heap.size, 1, none⟩ = some (.int .i64 b) := by rw [cell_of_row _ _ _ _ _ _ HF266.out]; rfl
  have hc271 : W18.cell? ⟨w2.heap.size, 2, none⟩ = some (.int .i64 k) := by rw [cell_of_row _ _ _ _ _ _ HF266.out]; rfl
  have hc272 : W18.cell? ⟨w2.heap.size, 3, none⟩ = some (.string x) := by rw [cell_of_row _ _ _ _ _ _ HF266.out]; rfl
  have hc273 : W18.cell? ⟨w2.heap.size, 4, none⟩ = some (.string o) := by rw [cell_of_row _ _ _ _ _ _ HF266.out]; rfl
  have hc274 : W18.cell? ⟨w2.heap.size, 5, none⟩ = some (.string n) := by rw [cell_of_row _ _ _ _ _ _ HF266.out]; rfl
  have hc275 : W18.cell? ⟨w2.heap.size, 6, none⟩ = some (.int .i64 t) := by rw [cell_of_row _ _ _ _ _ _ HF266.out]; rfl
  have hc276 : W18.cell? ⟨w2.heap.size, 7, none⟩ = some (.int .i64 0) := by rw [cell_of_row _ _ _ _ _ _ HF266.out]; rfl
  have hc277 : W18.cell? ⟨w2.heap.size + 1, 0, none⟩ = some (.string Y) := by rw [cell_of_row _ _ _ _ _ _ HF267.out]; rfl
  have hc278 : W18.cell? ⟨w2.heap.size + 1, 1, none⟩ = some (.int .i64 (q8 : Int)) := by rw [cell_of_row _ _ _ _ _ _ HF267.out]; rfl
  have hc279 : W18.cell? ⟨w2.heap.size + 1, 2, none⟩ = some (.int .i64 0) := by rw [cell_of_row _ _ _ _ _ _ HF267.out]; rfl
  have hz280 : W18.frozen? ⟨w2.heap.size, 7, none⟩ = false := frozen_of_row _ _ _ _ _ HF266.out
  have HF281 := Lib.hid (show (W18.setCell ⟨w2.heap.size, 7, none⟩ (.int .i64 u)).heap[w.heap.size]? = some (.cells #[.int .i64 0, .int .i64 0, .int .i64 0, .string ⟨#[]⟩, .string ⟨#[]⟩, .string ⟨#[]⟩, .int .i64 0, .int .i64 0] 42 (0, 0)) by rw [Below.heap_setCell _ _ _ _ (by show w.heap.size ≠ w2.heap.size; omega)]; exact HF265.out)
  have HF282 := Lib.hid (show (W18.setCell ⟨w2.heap.size, 7, none⟩ (.int .i64 u)).heap[w2.heap.size]? = some (.cells #[.int .i64 a, .int .i64 b, .int .i64 k, .string x, .string o, .string n, .int .i64 t, .int .i64 u] 42 (0, 0)) by have h := heap_setCell_at (i := 7) (u := .int .i64 u) HF266.out; exact h)
  have HF283 := Lib.hid (show (W18.setCell ⟨w2.heap.size, 7, none⟩ (.int .i64 u)).heap[w2.heap.size + 1]? = some (.cells #[.string Y, .int .i64 (q8 : Int), .int .i64 0] 213 (0, 0)) by rw [Below.heap_setCell _ _ _ _ (by show w2.heap.size + 1 ≠ w2.heap.size; omega)]; exact HF267.out)
  have HB284 := Lib.hid (HB268.out.setCell (p := ⟨w2.heap.size, 7, none⟩) (by show w.heap.size ≤ w2.heap.size; omega) (.int .i64 u))
  have hc285 : (W18.setCell ⟨w2.heap.size, 7, none⟩ (.int .i64 u)).cell? ⟨w2.heap.size + 1, 0, none⟩ = some (.string Y) := by rw [cell_of_row _ _ _ _ _ _ HF283.out]; rfl
  have hc286 : (W18.setCell ⟨w2.heap.size, 7, none⟩ (.int .i64 u)).cell? ⟨w2.heap.size + 1, 1, none⟩ = some (.int .i64 (q8 : Int)) := by rw [cell_of_row _ _ _ _ _ _ HF283.out]; rfl
  have hc287 : (W18.setCell ⟨w2.heap.size, 7, none⟩ (.int .i64 u)).cell? ⟨w2.heap.size + 1, 2, none⟩ = some (.int .i64 0) := by rw [cell_of_row _ _ _ _ _ _ HF283.out]; rfl
  have hc288 : (W18.setCell ⟨w2.heap.size, 7, none⟩ (.int .i64 u)).cell? ⟨w2.heap.size, 0, none⟩ = some (.int .i64 a) := by rw [cell_of_row _ _ _ _ _ _ HF282.out]; rfl
  have hc289 : (W18.setCell ⟨w2.heap.size, 7, none⟩ (.int .i64 u)).cell? ⟨w2.heap.size, 1, none⟩ = some (.int .i64 b) := by rw [cell_of_row _ _ _ _ _ _ HF282.out]; rfl
  have hc290 : (W18.setCell ⟨w2.heap.size, 7, none⟩ (.int .i64 u)).cell? ⟨w2.heap.size, 2, none⟩ = some (.int .i64 k) := by rw [cell_of_row _ _ _ _ _ _ HF282.out]; rfl
  have hc291 : (W18.setCell ⟨w2.heap.size, 7, none⟩ (.int .i64 u)).cell? ⟨w2.heap.size, 3, none⟩ = some (.string x) := by rw [cell_of_row _ _ _ _ _ _ HF282.out]; rfl
  have hc292 : (W18.setCell ⟨w2.heap.size, 7, none⟩ (.int .i64 u)).cell? ⟨w2.heap.size, 4, none⟩ = some (.string o) := by rw [cell_of_row _ _ _ _ _ _ HF282.out]; rfl
  have hc293 : (W18.setCell ⟨w2.heap.size, 7, none⟩ (.int .i64 u)).cell? ⟨w2.heap.size, 5, none⟩ = some (.string n) := by rw [cell_of_row _ _ _ _ _ _ HF282.out]; rfl
  have hc294 : (W18.setCell ⟨w2.heap.size, 7, none⟩ (.int .i64 u)).cell? ⟨w2.heap.size, 6, none⟩ = some (.int .i64 t) := by rw [cell_of_row _ _ _ _ _ _ HF282.out]; rfl
  have hc295 : (W18.setCell ⟨w2.heap.size, 7, none⟩ (.int .i64 u)).cell? ⟨w2.heap.size, 7, none⟩ = some (.int .i64 u) := by rw [cell_of_row _ _ _ _ _ _ HF282.out]; rfl
  go_wp2_with fail
  refine (HIS.out (W18.setCell ⟨w2.heap.size, 7, none⟩ (.int .i64 u))).mono ?_
  rintro e w19 ⟨rfl, hb19⟩
  clear hc269 hc270 hc271 hc272 hc273 hc274 hc275 hc276 hc277 hc278 hc279 hz280 hc285 hc286 hc287 hc288 hc289 hc290 hc291 hc292 hc293 hc294 hc295
  have HF296 := Lib.hid (blk_below HF281.out hb19)
  have HF297 := Lib.hid (blk_below HF282.out hb19)
  have HF298 := Lib.hid (blk_below HF283.out hb19)
  have HB299 := Lib.hid (HB284.out.trans (hb19.mono HB284.out.size))
  clear hb19 HB284 HF281 HF282 HF283
  have hc300 : w19.cell? ⟨w2.heap.size, 0, none⟩ = some (.int .i64 a) := by rw [cell_of_row _ _ _ _ _ _ HF297.out]; rfl
  have hc301 : w19.cell? ⟨w2.heap.size, 1, none⟩ = some (.int .i64 b) := by rw [cell_of_row _ _ _ _ _ _ HF297.out]; rfl
  have hc302 : w19.cell? ⟨w2.heap.size, 2, none⟩ = some (.int .i64 k) := by rw [cell_of_row _ _ _ _ _ _ HF297.out]; rfl
  have hc303 : w19.cell? ⟨w2.heap.size, 3, none⟩ = some (.string x) := by rw [cell_of_row _ _ _ _ _ _ HF297.out]; rfl
  have hc304 : w19.cell? ⟨w2.heap.size, 4, none⟩ = some (.string o) := by rw [cell_of_row _ _ _ _ _ _ HF297.out]; rfl
  have hc305 : w19.cell? ⟨w2.heap.size, 5, none⟩ = some (.string n) := by rw [cell_of_row _ _ _ _ _ _ HF297.out]; rfl
  have hc306 : w19.cell? ⟨w2.heap.size, 6, none⟩ = some (.int .i64 t) := by rw [cell_of_row _ _ _ _ _ _ HF297.out]; rfl
  have hc307 : w19.cell? ⟨w2.heap.size, 7, none⟩ = some (.int .i64 u) := by rw [cell_of_row _ _ _ _ _ _ HF297.out]; rfl
  have hc308 : w19.cell? ⟨w2.heap.size + 1, 0, none⟩ = some (.string Y) := by rw [cell_of_row _ _ _ _ _ _ HF298.out]; rfl
  have hc309 : w19.cell? ⟨w2.heap.size + 1, 1, none⟩ = some (.int .i64 (q8 : Int)) := by rw [cell_of_row _ _ _ _ _ _ HF298.out]; rfl
  have hc310 : w19.cell? ⟨w2.heap.size + 1, 2, none⟩ = some (.int .i64 0) := by rw [cell_of_row _ _ _ _ _ _ HF298.out]; rfl
  go_wp2_with fail
  refine (HPU.out w19).mono ?_
  rintro e w20 ⟨rfl, hb20⟩
  clear hc300 hc301 hc302 hc303 hc304 hc305 hc306 hc307 hc308 hc309 hc310
  have HF311 := Lib.hid (blk_below HF296.out hb20)
  have HF312 := Lib.hid (blk_below HF297.out hb20)
  have HF313 := Lib.hid (blk_below HF298.out hb20)
  have HB314 := Lib.hid (HB299.out.trans (hb20.mono HB299.out.size))
  clear hb20 HB299 HF296 HF297 HF298
  have hc315 : w20.cell? ⟨w2.heap.size, 0, none⟩ = some (.int .i64 a) := by rw [cell_of_row _ _ _ _ _ _ HF312.out]; rfl
  have hc316 : w20.cell? ⟨w2.heap.size, 1, none⟩ = some (.int .i64 b) := by rw [cell_of_row _ _ _ _ _ _ HF312.out]; rfl
  have hc317 : w20.cell? ⟨w2.heap.size, 2, none⟩ = some (.int .i64 k) := by rw [cell_of_row _ _ _ _ _ _ HF312.out]; rfl
  have hc318 : w20.cell? ⟨w2.heap.size, 3, none⟩ = some (.string x) := by rw [cell_of_row _ _ _ _ _ _ HF312.out]; rfl
  have hc319 : w20.cell? ⟨w2.heap.size, 4, none⟩ = some (.string o) := by rw [cell_of_row _ _ _ _ _ _ HF312.out]; rfl
  have hc320 : w20.cell? ⟨w2.heap.size, 5, none⟩ = some (.string n) := by rw [cell_of_row _ _ _ _ _ _ HF312.out]; rfl
  have hc321 : w20.cell? ⟨w2.heap.size, 6, none⟩ = some (.int .i64 t) := by rw [cell_of_row _ _ _ _ _ _ HF312.out]; rfl
  have hc322 : w20.cell? ⟨w2.heap.size, 7, none⟩ = some (.int .i64 u) := by rw [cell_of_row _ _ _ _ _ _ HF312.out]; rfl
  go_wp2_with (first
    | refine wpList_store_rowY rfl 42 (.tmp 2) (.tmp 96) rfl (w.heap.size) #[.int .i64 a, .int .i64 b, .int .i64 k, .string x, .string o, .string n, .int .i64 t, .int .i64 u] rfl rfl 42 _ HF311.out (info_rec _ _ _ _ _ _ _ _) rfl (one_rec _ _ _ _ _ _ _ _) w.heap.size w HB314.out (by omega) ?_
    | refine wpList_load_row rfl 42 (.tmp 7) rfl (w2.heap.size) rfl 42 #[.int .i64 a, .int .i64 b, .int .i64 k, .string x, .string o, .string n, .int .i64 t, .int .i64 u] (0, 0) _ HF312.out Tryz.underlying42 rfl (info_rec _ _ _ _ _ _ _ _) ?_)
  intro W21 hbk hoth hbel _
  clear hc315 hc316 hc317 hc318 hc319 hc320 hc321 hc322
  have HF323 := Lib.hid hbk.out
  have HF324 := Lib.hid (blk_oth HF312.out hoth.out (by omega))
  have HF325 := Lib.hid (blk_oth HF313.out hoth.out (by omega))
  have HB326 := Lib.hid hbel.out
  clear hbk hoth hbel HB314  HF311 HF312 HF313
  go_wp2_with fail
  refine bodyPost_ret (results_ctY rfl _ _ (w.heap.size) #[.int .i64 a, .int .i64 b, .int .i64 k, .string x, .string o, .string n, .int .i64 t, .int .i64 u] rfl (run_loadVar_row _ (w.heap.size) 42 42 _ (0, 0) _ HF323.out Tryz.underlying42 rfl (info_rec _ _ _ _ _ _ _ _))) rfl ?_
  exact ⟨rfl, HB326.out⟩
set_option maxHeartbeats 16000000 in
set_option maxRecDepth 100000 in
theorem ertake_no (S : ByteArray) (w : World) (hS : S.size ≤ 1000) (hno : ¬ IsRec S) :
    Calls Tryz.prog 88 #[.string S] w fun e w' => e = .returned (.tuple #[.agg recZ, .bool false]) ∧ Below w.heap.size w w' := by
  have HBR := Lib.hid (fun W : World => rbare_any S W hS)
  unfold recZ
  cases hb : bareB S with
  | false =>
    rw [rbareV_no hb] at HBR
    clear hb hno
    have HB1 := Lib.hid (Below.refl w.heap.size w)
    go_enter Tryz.func88, Tryz.ntmps88
    go_wp2_with fail
    have HF2 := Lib.hid (blk_new w (.cells #[.int .i64 0, .int .i64 0, .int .i64 0, .string ⟨#[]⟩, .string ⟨#[]⟩, .string ⟨#[]⟩, .int .i64 0, .int .i64 0] 42 (0, 0)))
    have HB3 := Lib.hid (HB1.out.alloc HB1.out.size (.cells #[.int .i64 0, .int .i64 0, .int .i64 0, .string ⟨#[]⟩, .string ⟨#[]⟩, .string ⟨#[]⟩, .int .i64 0, .int .i64 0] 42 (0, 0)))
    clear HB1
    refine (HBR.out (w.alloc (.cells #[.int .i64 0, .int .i64 0, .int .i64 0, .string ⟨#[]⟩, .string ⟨#[]⟩, .string ⟨#[]⟩, .int .i64 0, .int .i64 0] 42 (0, 0)))).mono ?_
    rintro e w1 ⟨rfl, hb1⟩
    have HF4 := Lib.hid (blk_below HF2.out hb1)
    have HB5 := Lib.hid (HB3.out.trans (hb1.mono HB3.out.size))
    clear hb1 HB3 HF2
    go_wp2_with (first
      | refine wpList_store_rowY rfl 42 (.tmp 2) (.tmp 16) rfl (w.heap.size) #[.int .i64 0, .int .i64 0, .int .i64 0, .string ⟨#[]⟩, .string ⟨#[]⟩, .string ⟨#[]⟩, .int .i64 0, .int .i64 0] rfl rfl 42 _ HF4.out (info_rec _ _ _ _ _ _ _ _) rfl (one_rec _ _ _ _ _ _ _ _) w.heap.size w HB5.out (by omega) ?_)
    intro W2 hbk hoth hbel _
    have HF6 := Lib.hid hbk.out
    have HB7 := Lib.hid hbel.out
    clear hbk hoth hbel HB5  HF4
    go_wp2_with fail
    refine bodyPost_ret (results_ctY rfl _ _ (w.heap.size) #[.int .i64 0, .int .i64 0, .int .i64 0, .string ⟨#[]⟩, .string ⟨#[]⟩, .string ⟨#[]⟩, .int .i64 0, .int .i64 0] rfl (run_loadVar_row _ (w.heap.size) 42 42 _ (0, 0) _ HF6.out Tryz.underlying42 rfl (info_rec _ _ _ _ _ _ _ _))) rfl ?_
    exact ⟨rfl, HB7.out⟩
  | true =>
    unfold rbareV at HBR
    rw [hb, if_pos rfl] at HBR
    obtain ⟨U, hU⟩ : ∃ U, bareT S = U := ⟨_, rfl⟩
    have hUs : U.size ≤ 1000 := by rw [← hU]; have := (bare_of S hb).2.1; omega
    rw [hU] at HBR
    have HOP := Lib.hid (fun (W : World) => refOpen_any U W (by omega))
    cases hse : sealed U with
    | false =>
      rw [opened_noY _ hse] at HOP
      clear hb hU hUs hse hno
      have HB1 := Lib.hid (Below.refl w.heap.size w)
      go_enter Tryz.func88, Tryz.ntmps88
      go_wp2_with fail
      have HF2 := Lib.hid (blk_new w (.cells #[.int .i64 0, .int .i64 0, .int .i64 0, .string ⟨#[]⟩, .string ⟨#[]⟩, .string ⟨#[]⟩, .int .i64 0, .int .i64 0] 42 (0, 0)))
      have HB3 := Lib.hid (HB1.out.alloc HB1.out.size (.cells #[.int .i64 0, .int .i64 0, .int .i64 0, .string ⟨#[]⟩, .string ⟨#[]⟩, .string ⟨#[]⟩, .int .i64 0, .int .i64 0] 42 (0, 0)))
      clear HB1
      refine (HBR.out (w.alloc (.cells #[.int .i64 0, .int .i64 0, .int .i64 0, .string ⟨#[]⟩, .string ⟨#[]⟩, .string ⟨#[]⟩, .int .i64 0, .int .i64 0] 42 (0, 0)))).mono ?_
      rintro e w1 ⟨rfl, hb1⟩
      have HF4 := Lib.hid (blk_below HF2.out hb1)
      have HB5 := Lib.hid (HB3.out.trans (hb1.mono HB3.out.size))
      clear hb1 HB3 HF2
      go_wp2_with fail
      refine (HOP.out w1).mono ?_
      rintro e w2 ⟨rfl, hb2⟩
      have HF6 := Lib.hid (blk_below HF4.out hb2)
      have HB7 := Lib.hid (HB5.out.trans (hb2.mono HB5.out.size))
      clear hb2 HB5 HF4
      go_wp2_with (first
        | refine wpList_store_rowY rfl 42 (.tmp 2) (.tmp 29) rfl (w.heap.size) #[.int .i64 0, .int .i64 0, .int .i64 0, .string ⟨#[]⟩, .string ⟨#[]⟩, .string ⟨#[]⟩, .int .i64 0, .int .i64 0] rfl rfl 42 _ HF6.out (info_rec _ _ _ _ _ _ _ _) rfl (one_rec _ _ _ _ _ _ _ _) w.heap.size w HB7.out (by omega) ?_)
      intro W3 hbk hoth hbel _
      have HF8 := Lib.hid hbk.out
      have HB9 := Lib.hid hbel.out
      clear hbk hoth hbel HB7  HF6
      go_wp2_with fail
      refine bodyPost_ret (results_ctY rfl _ _ (w.heap.size) #[.int .i64 0, .int .i64 0, .int .i64 0, .string ⟨#[]⟩, .string ⟨#[]⟩, .string ⟨#[]⟩, .int .i64 0, .int .i64 0] rfl (run_loadVar_row _ (w.heap.size) 42 42 _ (0, 0) _ HF8.out Tryz.underlying42 rfl (info_rec _ _ _ _ _ _ _ _))) rfl ?_
      exact ⟨rfl, HB9.out⟩
    | true =>
      rw [opened_yesY _ hse] at HOP
      obtain ⟨X, hX⟩ : ∃ X, U.extract 0 (U.size - 4) = X := ⟨_, rfl⟩
      rw [hX] at HOP
      have hXs : X.size ≤ 1000 := by rw [← hX, ByteArray.size_extract]; omega
      by_cases hX0 : X.size = 0
      · have hXl : decide ((X.size : Int) < 1) = true := decide_eq_true (by omega)
        have hXl3 : decide (X.size < 1) = true := decide_eq_true (by omega)
        clear hb hU hUs hse hno hX hX0
        have HB1 := Lib.hid (Below.refl w.heap.size w)
        go_enter Tryz.func88, Tryz.ntmps88
        go_wp2_with fail
        have HF2 := Lib.hid (blk_new w (.cells #[.int .i64 0, .int .i64 0, .int .i64 0, .string ⟨#[]⟩, .string ⟨#[]⟩, .string ⟨#[]⟩, .int .i64 0, .int .i64 0] 42 (0, 0)))
        have HB3 := Lib.hid (HB1.out.alloc HB1.out.size (.cells #[.int .i64 0, .int .i64 0, .int .i64 0, .string ⟨#[]⟩, .string ⟨#[]⟩, .string ⟨#[]⟩, .int .i64 0, .int .i64 0] 42 (0, 0)))
        clear HB1
        refine (HBR.out (w.alloc (.cells #[.int .i64 0, .int .i64 0, .int .i64 0, .string ⟨#[]⟩, .string ⟨#[]⟩, .string ⟨#[]⟩, .int .i64 0, .int .i64 0] 42 (0, 0)))).mono ?_
        rintro e w1 ⟨rfl, hb1⟩
        have HF4 := Lib.hid (blk_below HF2.out hb1)
        have HB5 := Lib.hid (HB3.out.trans (hb1.mono HB3.out.size))
        clear hb1 HB3 HF2
        go_wp2_with fail
        refine (HOP.out w1).mono ?_
        rintro e w2 ⟨rfl, hb2⟩
        have HF6 := Lib.hid (blk_below HF4.out hb2)
        have HB7 := Lib.hid (HB5.out.trans (hb2.mono HB5.out.size))
        clear hb2 HB5 HF4
        go_wp2_with (first
          | refine wpList_store_rowY rfl 42 (.tmp 2) (.tmp 29) rfl (w.heap.size) #[.int .i64 0, .int .i64 0, .int .i64 0, .string ⟨#[]⟩, .string ⟨#[]⟩, .string ⟨#[]⟩, .int .i64 0, .int .i64 0] rfl rfl 42 _ HF6.out (info_rec _ _ _ _ _ _ _ _) rfl (one_rec _ _ _ _ _ _ _ _) w.heap.size w HB7.out (by omega) ?_)
        intro W3 hbk hoth hbel _
        have HF8 := Lib.hid hbk.out
        have HB9 := Lib.hid hbel.out
        clear hbk hoth hbel HB7  HF6
        go_wp2_with fail
        refine bodyPost_ret (results_ctY rfl _ _ (w.heap.size) #[.int .i64 0, .int .i64 0, .int .i64 0, .string ⟨#[]⟩, .string ⟨#[]⟩, .string ⟨#[]⟩, .int .i64 0, .int .i64 0] rfl (run_loadVar_row _ (w.heap.size) 42 42 _ (0, 0) _ HF8.out Tryz.underlying42 rfl (info_rec _ _ _ _ _ _ _ _))) rfl ?_
        exact ⟨rfl, HB9.out⟩
      · have hXl : decide ((X.size : Int) < 1) = false := decide_eq_false (by omega)
        have hXl3 : decide (X.size < 1) = false := decide_eq_false (by omega)
        have hXl2 : (1 : Int) ≤ (X.size : Int) := by omega
        obtain ⟨Y, hY⟩ : ∃ Y, X.extract 1 X.size = Y := ⟨_, rfl⟩
        have hYs : Y.size ≤ 1000 := by rw [← hY, ByteArray.size_extract]; omega
        obtain ⟨a, q1, e1, h1⟩ : ∃ a b c, Rd.num Y 0 0 4294967296 = (a, b, c) := ⟨_, _, _, rfl⟩
        obtain ⟨b, q2, e2, h2⟩ : ∃ a b c, Rd.num Y q1 e1 4294967296 = (a, b, c) := ⟨_, _, _, rfl⟩
        obtain ⟨k, q3, e3, h3⟩ : ∃ a b c, Rd.num Y q2 e2 4294967296 = (a, b, c) := ⟨_, _, _, rfl⟩
        obtain ⟨x, q4, e4, h4⟩ : ∃ a b c, Rd.text Y q3 e3 128 = (a, b, c) := ⟨_, _, _, rfl⟩
        obtain ⟨o, q5, e5, h5⟩ : ∃ a b c, Rd.text Y q4 e4 128 = (a, b, c) := ⟨_, _, _, rfl⟩
        obtain ⟨n, q6, e6, h6⟩ : ∃ a b c, Rd.text Y q5 e5 128 = (a, b, c) := ⟨_, _, _, rfl⟩
        obtain ⟨t, q7, e7, h7⟩ : ∃ a b c, Rd.num Y q6 e6 4294967296 = (a, b, c) := ⟨_, _, _, rfl⟩
        obtain ⟨u, q8, e8, h8⟩ : ∃ a b c, Rd.num Y q7 e7 4294967296 = (a, b, c) := ⟨_, _, _, rfl⟩
        have l1 : q1 ≤ Y.size := by have := Rd.num_le Y 0 0 4294967296 (Nat.zero_le _); rw [h1] at this; exact this
        have l2 : q2 ≤ Y.size := by have := Rd.num_le Y q1 e1 4294967296 l1; rw [h2] at this; exact this
        have l3 : q3 ≤ Y.size := by have := Rd.num_le Y q2 e2 4294967296 l2; rw [h3] at this; exact this
        have l4 : q4 ≤ Y.size := by have := Rd.text_le Y q3 e3 128 l3; rw [h4] at this; exact this
        have l5 : q5 ≤ Y.size := by have := Rd.text_le Y q4 e4 128 l4; rw [h5] at this; exact this
        have l6 : q6 ≤ Y.size := by have := Rd.text_le Y q5 e5 128 l5; rw [h6] at this; exact this
        have l7 : q7 ≤ Y.size := by have := Rd.num_le Y q6 e6 4294967296 l6; rw [h7] at this; exact this
        have l8 : q8 ≤ Y.size := by have := Rd.num_le Y q7 e7 4294967296 l7; rw [h8] at this; exact this
        have H1 := Lib.hid (fun W : World => rnumE Y 0 0 4294967296 _ _ _ W (by omega) (Nat.zero_le _) (by omega) (by omega) h1)
        have H2 := Lib.hid (fun W : World => rnumE Y q1 e1 4294967296 _ _ _ W (by omega) l1 (by omega) (by omega) h2)
        have H3 := Lib.hid (fun W : World => rnumE Y q2 e2 4294967296 _ _ _ W (by omega) l2 (by omega) (by omega) h3)
        have H4 := Lib.hid (fun W : World => rtextE Y q3 e3 128 _ _ _ W (by omega) l3 (by omega) (by omega) h4)
        have H5 := Lib.hid (fun W : World => rtextE Y q4 e4 128 _ _ _ W (by omega) l4 (by omega) (by omega) h5)
        have H6 := Lib.hid (fun W : World => rtextE Y q5 e5 128 _ _ _ W (by omega) l5 (by omega) (by omega) h6)
        have H7 := Lib.hid (fun W : World => rnumE Y q6 e6 4294967296 _ _ _ W (by omega) l6 (by omega) (by omega) h7)
        have H8 := Lib.hid (fun W : World => rnumE Y q7 e7 4294967296 _ _ _ W (by omega) l7 (by omega) (by omega) h8)
        have hxs : x.size ≤ maxLen := by
          have := Rd.fix_size Y (Rd.num Y q3 e3 128).2.1 (Rd.num Y q3 e3 128).2.2 (Rd.num Y q3 e3 128).1
          have e : (Rd.text Y q3 e3 128).1.size ≤ Y.size := this
          rw [h4] at e
          dsimp only at e
          unfold maxLen; omega
        have HIS := Lib.hid (fun W : World => ris_any a b k x o n t u W hxs)
        have HPU := Lib.hid (fun W : World => erputR_any a b k x o n t u W hxs)
        have hrec := fun hr he => hno ⟨a, b, k, x, o, n, t, u, hr, he⟩
        clear hb hU hUs hse hno hX hXs hX0 hYs h1 h2 h3 h4 h5 h6 h7 h8 l1 l2 l3 l4 l5 l6 l7 l8 hxs
        by_cases he : e8 = 0
        · subst he
          cases hr : rok a b k x o n t u with
          | false =>
            rw [hr] at HIS
            clear hr hrec HPU
            have HB1 := Lib.hid (Below.refl w.heap.size w)
            go_enter Tryz.func88, Tryz.ntmps88
            go_wp2_with fail
            have HF2 := Lib.hid (blk_new w (.cells #[.int .i64 0, .int .i64 0, .int .i64 0, .string ⟨#[]⟩, .string ⟨#[]⟩, .string ⟨#[]⟩, .int .i64 0, .int .i64 0] 42 (0, 0)))
            have HB3 := Lib.hid (HB1.out.alloc HB1.out.size (.cells #[.int .i64 0, .int .i64 0, .int .i64 0, .string ⟨#[]⟩, .string ⟨#[]⟩, .string ⟨#[]⟩, .int .i64 0, .int .i64 0] 42 (0, 0)))
            clear HB1
            refine (HBR.out (w.alloc (.cells #[.int .i64 0, .int .i64 0, .int .i64 0, .string ⟨#[]⟩, .string ⟨#[]⟩, .string ⟨#[]⟩, .int .i64 0, .int .i64 0] 42 (0, 0)))).mono ?_
            rintro e w1 ⟨rfl, hb1⟩
            have HF4 := Lib.hid (blk_below HF2.out hb1)
            have HB5 := Lib.hid (HB3.out.trans (hb1.mono HB3.out.size))
            clear hb1 HB3 HF2
            go_wp2_with fail
            refine (HOP.out w1).mono ?_
            rintro e w2 ⟨rfl, hb2⟩
            have HF6 := Lib.hid (blk_below HF4.out hb2)
            have HB7 := Lib.hid (HB5.out.trans (hb2.mono HB5.out.size))
            clear hb2 HB5 HF4
            have hk8 : w.heap.size < w2.heap.size := lt_of_block HF6.out
            have HF9 := Lib.hid (blk_alloc HF6.out (.cells #[.int .i64 0, .int .i64 0, .int .i64 0, .string ⟨#[]⟩, .string ⟨#[]⟩, .string ⟨#[]⟩, .int .i64 0, .int .i64 0] 42 (0, 0)))
            have HF10 := Lib.hid (blk_new w2 (.cells #[.int .i64 0, .int .i64 0, .int .i64 0, .string ⟨#[]⟩, .string ⟨#[]⟩, .string ⟨#[]⟩, .int .i64 0, .int .i64 0] 42 (0, 0)))
            have HB11 := Lib.hid (HB7.out.alloc HB7.out.size (.cells #[.int .i64 0, .int .i64 0, .int .i64 0, .string ⟨#[]⟩, .string ⟨#[]⟩, .string ⟨#[]⟩, .int .i64 0, .int .i64 0] 42 (0, 0)))
            clear HB7
            have HF12 := Lib.hid (blk_alloc HF9.out (.cells #[.string Y, .int .i64 0, .int .i64 0] 213 (0, 0)))
            clear HF9
            have HF13 := Lib.hid (blk_alloc HF10.out (.cells #[.string Y, .int .i64 0, .int .i64 0] 213 (0, 0)))
            clear HF10
            have HF14 : Hid (((w2.alloc (.cells #[.int .i64 0, .int .i64 0, .int .i64 0, .string ⟨#[]⟩, .string ⟨#[]⟩, .string ⟨#[]⟩, .int .i64 0, .int .i64 0] 42 (0, 0))).alloc (.cells #[.string Y, .int .i64 0, .int .i64 0] 213 (0, 0))).heap[w2.heap.size + 1]? = some (.cells #[.string Y, .int .i64 0, .int .i64 0] 213 (0, 0))) := Lib.hid (blk_newN (W := (w2.alloc (.cells #[.int .i64 0, .int .i64 0, .int .i64 0, .string ⟨#[]⟩, .string ⟨#[]⟩, .string ⟨#[]⟩, .int .i64 0, .int .i64 0] 42 (0, 0)))) (o := (.cells #[.string Y, .int .i64 0, .int .i64 0] 213 (0, 0))) (by simp))
            have HB15 := Lib.hid (HB11.out.alloc (by have := HB11.out.size; simp at this ⊢ <;> omega) (.cells #[.string Y, .int .i64 0, .int .i64 0] 213 (0, 0)))
            clear HB11
            go_wp2_with fail
            refine (H1.out ((w2.alloc (.cells #[.int .i64 0, .int .i64 0, .int .i64 0, .string ⟨#[]⟩, .string ⟨#[]⟩, .string ⟨#[]⟩, .int .i64 0, .int .i64 0] 42 (0, 0))).alloc (.cells #[.string Y, .int .i64 0, .int .i64 0] 213 (0, 0)))).mono ?_
            rintro e w3 ⟨rfl, hb3⟩
            have HF16 := Lib.hid (blk_below HF12.out hb3)
            have HF17 := Lib.hid (blk_below HF13.out hb3)
            have HF18 := Lib.hid (blk_below HF14.out hb3)
            have HB19 := Lib.hid (HB15.out.trans (hb3.mono HB15.out.size))
            clear hb3 HB15 HF12 HF6 HF13 HF14
            go_wp2_with (first
              | refine wpList_store_rowY rfl 213 (.tmp 8) (.tmp 36) rfl (w2.heap.size + 1) #[.string Y, .int .i64 (q1 : Int), .int .i64 e1] rfl rfl 213 _ HF18.out (info_scE _ _ _) rfl (one_scE _ _ _) w.heap.size w HB19.out (by omega) ?_)
            intro W4 hbk hoth hbel _
            have HF20 := Lib.hid (blk_oth HF16.out hoth.out (by omega))
            have HF21 := Lib.hid (blk_oth HF17.out hoth.out (by omega))
            have HF22 := Lib.hid hbk.out
            have HB23 := Lib.hid hbel.out
            clear hbk hoth hbel HB19  HF16 HF17 HF18
            have hc24 : W4.cell? ⟨w2.heap.size, 0, none⟩ = some (.int .i64 0) := by rw [cell_of_row _ _ _ _ _ _ HF21.out]; rfl
            have hc25 : W4.cell? ⟨w2.heap.size, 1, none⟩ = some (.int .i64 0) := by rw [cell_of_row _ _ _ _ _ _ HF21.out]; rfl
            have hc26 : W4.cell? ⟨w2.heap.size, 2, none⟩ = some (.int .i64 0) := by rw [cell_of_row _ _ _ _ _ _ HF21.out]; rfl
            have hc27 : W4.cell? ⟨w2.heap.size, 3, none⟩ = some (.string ⟨#[]⟩) := by rw [cell_of_row _ _ _ _ _ _ HF21.out]; rfl
            have hc28 : W4.cell? ⟨w2.heap.size, 4, none⟩ = some (.string ⟨#[]⟩) := by rw [cell_of_row _ _ _ _ _ _ HF21.out]; rfl
            have hc29 : W4.cell? ⟨w2.heap.size, 5, none⟩ = some (.string ⟨#[]⟩) := by rw [cell_of_row _ _ _ _ _ _ HF21.out]; rfl
            have hc30 : W4.cell? ⟨w2.heap.size, 6, none⟩ = some (.int .i64 0) := by rw [cell_of_row _ _ _ _ _ _ HF21.out]; rfl
            have hc31 : W4.cell? ⟨w2.heap.size, 7, none⟩ = some (.int .i64 0) := by rw [cell_of_row _ _ _ _ _ _ HF21.out]; rfl
            have hc32 : W4.cell? ⟨w2.heap.size + 1, 0, none⟩ = some (.string Y) := by rw [cell_of_row _ _ _ _ _ _ HF22.out]; rfl
            have hc33 : W4.cell? ⟨w2.heap.size + 1, 1, none⟩ = some (.int .i64 (q1 : Int)) := by rw [cell_of_row _ _ _ _ _ _ HF22.out]; rfl
            have hc34 : W4.cell? ⟨w2.heap.size + 1, 2, none⟩ = some (.int .i64 e1) := by rw [cell_of_row _ _ _ _ _ _ HF22.out]; rfl
            have hz35 : W4.frozen? ⟨w2.heap.size, 0, none⟩ = false := frozen_of_row _ _ _ _ _ HF21.out
            have HF36 := Lib.hid (show (W4.setCell ⟨w2.heap.size, 0, none⟩ (.int .i64 a)).heap[w.heap.size]? = some (.cells #[.int .i64 0, .int .i64 0, .int .i64 0, .string ⟨#[]⟩, .string ⟨#[]⟩, .string ⟨#[]⟩, .int .i64 0, .int .i64 0] 42 (0, 0)) by rw [Below.heap_setCell _ _ _ _ (by show w.heap.size ≠ w2.heap.size; omega)]; exact HF20.out)
            have HF37 := Lib.hid (show (W4.setCell ⟨w2.heap.size, 0, none⟩ (.int .i64 a)).heap[w2.heap.size]? = some (.cells #[.int .i64 a, .int .i64 0, .int .i64 0, .string ⟨#[]⟩, .string ⟨#[]⟩, .string ⟨#[]⟩, .int .i64 0, .int .i64 0] 42 (0, 0)) by have h := heap_setCell_at (i := 0) (u := .int .i64 a) HF21.out; exact h)
            have HF38 := Lib.hid (show (W4.setCell ⟨w2.heap.size, 0, none⟩ (.int .i64 a)).heap[w2.heap.size + 1]? = some (.cells #[.string Y, .int .i64 (q1 : Int), .int .i64 e1] 213 (0, 0)) by rw [Below.heap_setCell _ _ _ _ (by show w2.heap.size + 1 ≠ w2.heap.size; omega)]; exact HF22.out)
            have HB39 := Lib.hid (HB23.out.setCell (p := ⟨w2.heap.size, 0, none⟩) (by show w.heap.size ≤ w2.heap.size; omega) (.int .i64 a))
            have hc40 : (W4.setCell ⟨w2.heap.size, 0, none⟩ (.int .i64 a)).cell? ⟨w2.heap.size + 1, 0, none⟩ = some (.string Y) := by rw [cell_of_row _ _ _ _ _ _ HF38.out]; rfl
            have hc41 : (W4.setCell ⟨w2.heap.size, 0, none⟩ (.int .i64 a)).cell? ⟨w2.heap.size + 1, 1, none⟩ = some (.int .i64 (q1 : Int)) := by rw [cell_of_row _ _ _ _ _ _ HF38.out]; rfl
            have hc42 : (W4.setCell ⟨w2.heap.size, 0, none⟩ (.int .i64 a)).cell? ⟨w2.heap.size + 1, 2, none⟩ = some (.int .i64 e1) := by rw [cell_of_row _ _ _ _ _ _ HF38.out]; rfl
            have hc43 : (W4.setCell ⟨w2.heap.size, 0, none⟩ (.int .i64 a)).cell? ⟨w2.heap.size, 0, none⟩ = some (.int .i64 a) := by rw [cell_of_row _ _ _ _ _ _ HF37.out]; rfl
            have hc44 : (W4.setCell ⟨w2.heap.size, 0, none⟩ (.int .i64 a)).cell? ⟨w2.heap.size, 1, none⟩ = some (.int .i64 0) := by rw [cell_of_row _ _ _ _ _ _ HF37.out]; rfl
            have hc45 : (W4.setCell ⟨w2.heap.size, 0, none⟩ (.int .i64 a)).cell? ⟨w2.heap.size, 2, none⟩ = some (.int .i64 0) := by rw [cell_of_row _ _ _ _ _ _ HF37.out]; rfl
            have hc46 : (W4.setCell ⟨w2.heap.size, 0, none⟩ (.int .i64 a)).cell? ⟨w2.heap.size, 3, none⟩ = some (.string ⟨#[]⟩) := by rw [cell_of_row _ _ _ _ _ _ HF37.out]; rfl
            have hc47 : (W4.setCell ⟨w2.heap.size, 0, none⟩ (.int .i64 a)).cell? ⟨w2.heap.size, 4, none⟩ = some (.string ⟨#[]⟩) := by rw [cell_of_row _ _ _ _ _ _ HF37.out]; rfl
            have hc48 : (W4.setCell ⟨w2.heap.size, 0, none⟩ (.int .i64 a)).cell? ⟨w2.heap.size, 5, none⟩ = some (.string ⟨#[]⟩) := by rw [cell_of_row _ _ _ _ _ _ HF37.out]; rfl
            have hc49 : (W4.setCell ⟨w2.heap.size, 0, none⟩ (.int .i64 a)).cell? ⟨w2.heap.size, 6, none⟩ = some (.int .i64 0) := by rw [cell_of_row _ _ _ _ _ _ HF37.out]; rfl
            have hc50 : (W4.setCell ⟨w2.heap.size, 0, none⟩ (.int .i64 a)).cell? ⟨w2.heap.size, 7, none⟩ = some (.int .i64 0) := by rw [cell_of_row _ _ _ _ _ _ HF37.out]; rfl
            go_wp2_with fail
            refine (H2.out (W4.setCell ⟨w2.heap.size, 0, none⟩ (.int .i64 a))).mono ?_
            rintro e w5 ⟨rfl, hb5⟩
            clear hc24 hc25 hc26 hc27 hc28 hc29 hc30 hc31 hc32 hc33 hc34 hz35 hc40 hc41 hc42 hc43 hc44 hc45 hc46 hc47 hc48 hc49 hc50
            have HF51 := Lib.hid (blk_below HF36.out hb5)
            have HF52 := Lib.hid (blk_below HF37.out hb5)
            have HF53 := Lib.hid (blk_below HF38.out hb5)
            have HB54 := Lib.hid (HB39.out.trans (hb5.mono HB39.out.size))
            clear hb5 HB39 HF36 HF37 HF38
            go_wp2_with (first
              | refine wpList_store_rowY rfl 213 (.tmp 8) (.tmp 42) rfl (w2.heap.size + 1) #[.string Y, .int .i64 (q2 : Int), .int .i64 e2] rfl rfl 213 _ HF53.out (info_scE _ _ _) rfl (one_scE _ _ _) w.heap.size w HB54.out (by omega) ?_)
            intro W6 hbk hoth hbel _
            have HF55 := Lib.hid (blk_oth HF51.out hoth.out (by omega))
            have HF56 := Lib.hid (blk_oth HF52.out hoth.out (by omega))
            have HF57 := Lib.hid hbk.out
            have HB58 := Lib.hid hbel.out
            clear hbk hoth hbel HB54  HF51 HF52 HF53
            have hc59 : W6.cell? ⟨w2.heap.size, 0, none⟩ = some (.int .i64 a) := by rw [cell_of_row _ _ _ _ _ _ HF56.out]; rfl
            have hc60 : W6.cell? ⟨w2.heap.size, 1, none⟩ = some (.int .i64 0) := by rw [cell_of_row _ _ _ _ _ _ HF56.out]; rfl
            have hc61 : W6.cell? ⟨w2.heap.size, 2, none⟩ = some (.int .i64 0) := by rw [cell_of_row _ _ _ _ _ _ HF56.out]; rfl
            have hc62 : W6.cell? ⟨w2.heap.size, 3, none⟩ = some (.string ⟨#[]⟩) := by rw [cell_of_row _ _ _ _ _ _ HF56.out]; rfl
            have hc63 : W6.cell? ⟨w2.heap.size, 4, none⟩ = some (.string ⟨#[]⟩) := by rw [cell_of_row _ _ _ _ _ _ HF56.out]; rfl
            have hc64 : W6.cell? ⟨w2.heap.size, 5, none⟩ = some (.string ⟨#[]⟩) := by rw [cell_of_row _ _ _ _ _ _ HF56.out]; rfl
            have hc65 : W6.cell? ⟨w2.heap.size, 6, none⟩ = some (.int .i64 0) := by rw [cell_of_row _ _ _ _ _ _ HF56.out]; rfl
            have hc66 : W6.cell? ⟨w2.heap.size, 7, none⟩ = some (.int .i64 0) := by rw [cell_of_row _ _ _ _ _ _ HF56.out]; rfl
            have hc67 : W6.cell? ⟨w2.heap.size + 1, 0, none⟩ = some (.string Y) := by rw [cell_of_row _ _ _ _ _ _ HF57.out]; rfl
            have hc68 : W6.cell? ⟨w2.heap.size + 1, 1, none⟩ = some (.int .i64 (q2 : Int)) := by rw [cell_of_row _ _ _ _ _ _ HF57.out]; rfl
            have hc69 : W6.cell? ⟨w2.heap.size + 1, 2, none⟩ = some (.int .i64 e2) := by rw [cell_of_row _ _ _ _ _ _ HF57.out]; rfl
            have hz70 : W6.frozen? ⟨w2.heap.size, 1, none⟩ = false := frozen_of_row _ _ _ _ _ HF56.out
            have HF71 := Lib.hid (show (W6.setCell ⟨w2.heap.size, 1, none⟩ (.int .i64 b)).heap[w.heap.size]? = some (.cells #[.int .i64 0, .int .i64 0, .int .i64 0, .string ⟨#[]⟩, .string ⟨#[]⟩, .string ⟨#[]⟩, .int .i64 0, .int .i64 0] 42 (0, 0)) by rw [Below.heap_setCell _ _ _ _ (by show w.heap.size ≠ w2.heap.size; omega)]; exact HF55.out)
            have HF72 := Lib.hid (show (W6.setCell ⟨w2.heap.size, 1, none⟩ (.int .i64 b)).heap[w2.heap.size]? = some (.cells #[.int .i64 a, .int .i64 b, .int .i64 0, .string ⟨#[]⟩, .string ⟨#[]⟩, .string ⟨#[]⟩, .int .i64 0, .int .i64 0] 42 (0, 0)) by have h := heap_setCell_at (i := 1) (u := .int .i64 b) HF56.out; exact h)
            have HF73 := Lib.hid (show (W6.setCell ⟨w2.heap.size, 1, none⟩ (.int .i64 b)).heap[w2.heap.size + 1]? = some (.cells #[.string Y, .int .i64 (q2 : Int), .int .i64 e2] 213 (0, 0)) by rw [Below.heap_setCell _ _ _ _ (by show w2.heap.size + 1 ≠ w2.heap.size; omega)]; exact HF57.out)
            have HB74 := Lib.hid (HB58.out.setCell (p := ⟨w2.heap.size, 1, none⟩) (by show w.heap.size ≤ w2.heap.size; omega) (.int .i64 b))
            have hc75 : (W6.setCell ⟨w2.heap.size, 1, none⟩ (.int .i64 b)).cell? ⟨w2.heap.size + 1, 0, none⟩ = some (.string Y) := by rw [cell_of_row _ _ _ _ _ _ HF73.out]; rfl
            have hc76 : (W6.setCell ⟨w2.heap.size, 1, none⟩ (.int .i64 b)).cell? ⟨w2.heap.size + 1, 1, none⟩ = some (.int .i64 (q2 : Int)) := by rw [cell_of_row _ _ _ _ _ _ HF73.out]; rfl
            have hc77 : (W6.setCell ⟨w2.heap.size, 1, none⟩ (.int .i64 b)).cell? ⟨w2.heap.size + 1, 2, none⟩ = some (.int .i64 e2) := by rw [cell_of_row _ _ _ _ _ _ HF73.out]; rfl
            have hc78 : (W6.setCell ⟨w2.heap.size, 1, none⟩ (.int .i64 b)).cell? ⟨w2.heap.size, 0, none⟩ = some (.int .i64 a) := by rw [cell_of_row _ _ _ _ _ _ HF72.out]; rfl
            have hc79 : (W6.setCell ⟨w2.heap.size, 1, none⟩ (.int .i64 b)).cell? ⟨w2.heap.size, 1, none⟩ = some (.int .i64 b) := by rw [cell_of_row _ _ _ _ _ _ HF72.out]; rfl
            have hc80 : (W6.setCell ⟨w2.heap.size, 1, none⟩ (.int .i64 b)).cell? ⟨w2.heap.size, 2, none⟩ = some (.int .i64 0) := by rw [cell_of_row _ _ _ _ _ _ HF72.out]; rfl
            have hc81 : (W6.setCell ⟨w2.heap.size, 1, none⟩ (.int .i64 b)).cell? ⟨w2.heap.size, 3, none⟩ = some (.string ⟨#[]⟩) := by rw [cell_of_row _ _ _ _ _ _ HF72.out]; rfl
            have hc82 : (W6.setCell ⟨w2.heap.size, 1, none⟩ (.int .i64 b)).cell? ⟨w2.heap.size, 4, none⟩ = some (.string ⟨#[]⟩) := by rw [cell_of_row _ _ _ _ _ _ HF72.out]; rfl
            have hc83 : (W6.setCell ⟨w2.heap.size, 1, none⟩ (.int .i64 b)).cell? ⟨w2.heap.size, 5, none⟩ = some (.string ⟨#[]⟩) := by rw [cell_of_row _ _ _ _ _ _ HF72.out]; rfl
            have hc84 : (W6.setCell ⟨w2.heap.size, 1, none⟩ (.int .i64 b)).cell? ⟨w2.heap.size, 6, none⟩ = some (.int .i64 0) := by rw [cell_of_row _ _ _ _ _ _ HF72.out]; rfl
            have hc85 : (W6.setCell ⟨w2.heap.size, 1, none⟩ (.int .i64 b)).cell? ⟨w2.heap.size, 7, none⟩ = some (.int .i64 0) := by rw [cell_of_row _ _ _ _ _ _ HF72.out]; rfl
            go_wp2_with fail
            refine (H3.out (W6.setCell ⟨w2.heap.size, 1, none⟩ (.int .i64 b))).mono ?_
            rintro e w7 ⟨rfl, hb7⟩
            clear hc59 hc60 hc61 hc62 hc63 hc64 hc65 hc66 hc67 hc68 hc69 hz70 hc75 hc76 hc77 hc78 hc79 hc80 hc81 hc82 hc83 hc84 hc85
            have HF86 := Lib.hid (blk_below HF71.out hb7)
            have HF87 := Lib.hid (blk_below HF72.out hb7)
            have HF88 := Lib.hid (blk_below HF73.out hb7)
            have HB89 := Lib.hid (HB74.out.trans (hb7.mono HB74.out.size))
            clear hb7 HB74 HF71 HF72 HF73
            go_wp2_with (first
              | refine wpList_store_rowY rfl 213 (.tmp 8) (.tmp 48) rfl (w2.heap.size + 1) #[.string Y, .int .i64 (q3 : Int), .int .i64 e3] rfl rfl 213 _ HF88.out (info_scE _ _ _) rfl (one_scE _ _ _) w.heap.size w HB89.out (by omega) ?_)
            intro W8 hbk hoth hbel _
            have HF90 := Lib.hid (blk_oth HF86.out hoth.out (by omega))
            have HF91 := Lib.hid (blk_oth HF87.out hoth.out (by omega))
            have HF92 := Lib.hid hbk.out
            have HB93 := Lib.hid hbel.out
            clear hbk hoth hbel HB89  HF86 HF87 HF88
            have hc94 : W8.cell? ⟨w2.heap.size, 0, none⟩ = some (.int .i64 a) := by rw [cell_of_row _ _ _ _ _ _ HF91.out]; rfl
            have hc95 : W8.cell? ⟨w2.heap.size, 1, none⟩ = some (.int .i64 b) := by rw [cell_of_row _ _ _ _ _ _ HF91.out]; rfl
            have hc96 : W8.cell? ⟨w2.heap.size, 2, none⟩ = some (.int .i64 0) := by rw [cell_of_row _ _ _ _ _ _ HF91.out]; rfl
            have hc97 : W8.cell? ⟨w2.heap.size, 3, none⟩ = some (.string ⟨#[]⟩) := by rw [cell_of_row _ _ _ _ _ _ HF91.out]; rfl
            have hc98 : W8.cell? ⟨w2.heap.size, 4, none⟩ = some (.string ⟨#[]⟩) := by rw [cell_of_row _ _ _ _ _ _ HF91.out]; rfl
            have hc99 : W8.cell? ⟨w2.heap.size, 5, none⟩ = some (.string ⟨#[]⟩) := by rw [cell_of_row _ _ _ _ _ _ HF91.out]; rfl
            have hc100 : W8.cell? ⟨w2.heap.size, 6, none⟩ = some (.int .i64 0) := by rw [cell_of_row _ _ _ _ _ _ HF91.out]; rfl
            have hc101 : W8.cell? ⟨w2.heap.size, 7, none⟩ = some (.int .i64 0) := by rw [cell_of_row _ _ _ _ _ _ HF91.out]; rfl
            have hc102 : W8.cell? ⟨w2.heap.size + 1, 0, none⟩ = some (.string Y) := by rw [cell_of_row _ _ _ _ _ _ HF92.out]; rfl
            have hc103 : W8.cell? ⟨w2.heap.size + 1, 1, none⟩ = some (.int .i64 (q3 : Int)) := by rw [cell_of_row _ _ _ _ _ _ HF92.out]; rfl
            have hc104 : W8.cell? ⟨w2.heap.size + 1, 2, none⟩ = some (.int .i64 e3) := by rw [cell_of_row _ _ _ _ _ _ HF92.out]; rfl
            have hz105 : W8.frozen? ⟨w2.heap.size, 2, none⟩ = false := frozen_of_row _ _ _ _ _ HF91.out
            have HF106 := Lib.hid (show (W8.setCell ⟨w2.heap.size, 2, none⟩ (.int .i64 k)).heap[w.heap.size]? = some (.cells #[.int .i64 0, .int .i64 0, .int .i64 0, .string ⟨#[]⟩, .string ⟨#[]⟩, .string ⟨#[]⟩, .int .i64 0, .int .i64 0] 42 (0, 0)) by rw [Below.heap_setCell _ _ _ _ (by show w.heap.size ≠ w2.heap.size; omega)]; exact HF90.out)
            have HF107 := Lib.hid (show (W8.setCell ⟨w2.heap.size, 2, none⟩ (.int .i64 k)).heap[w2.heap.size]? = some (.cells #[.int .i64 a, .int .i64 b, .int .i64 k, .string ⟨#[]⟩, .string ⟨#[]⟩, .string ⟨#[]⟩, .int .i64 0, .int .i64 0] 42 (0, 0)) by have h := heap_setCell_at (i := 2) (u := .int .i64 k) HF91.out; exact h)
            have HF108 := Lib.hid (show (W8.setCell ⟨w2.heap.size, 2, none⟩ (.int .i64 k)).heap[w2.heap.size + 1]? = some (.cells #[.string Y, .int .i64 (q3 : Int), .int .i64 e3] 213 (0, 0)) by rw [Below.heap_setCell _ _ _ _ (by show w2.heap.size + 1 ≠ w2.heap.size; omega)]; exact HF92.out)
            have HB109 := Lib.hid (HB93.out.setCell (p := ⟨w2.heap.size, 2, none⟩) (by show w.heap.size ≤ w2.heap.size; omega) (.int .i64 k))
            have hc110 : (W8.setCell ⟨w2.heap.size, 2, none⟩ (.int .i64 k)).cell? ⟨w2.heap.size + 1, 0, none⟩ = some (.string Y) := by rw [cell_of_row _ _ _ _ _ _ HF108.out]; rfl
            have hc111 : (W8.setCell ⟨w2.heap.size, 2, none⟩ (.int .i64 k)).cell? ⟨w2.heap.size + 1, 1, none⟩ = some (.int .i64 (q3 : Int)) := by rw [cell_of_row _ _ _ _ _ _ HF108.out]; rfl
            have hc112 : (W8.setCell ⟨w2.heap.size, 2, none⟩ (.int .i64 k)).cell? ⟨w2.heap.size + 1, 2, none⟩ = some (.int .i64 e3) := by rw [cell_of_row _ _ _ _ _ _ HF108.out]; rfl
            have hc113 : (W8.setCell ⟨w2.heap.size, 2, none⟩ (.int .i64 k)).cell? ⟨w2.heap.size, 0, none⟩ = some (.int .i64 a) := by rw [cell_of_row _ _ _ _ _ _ HF107.out]; rfl
            have hc114 : (W8.setCell ⟨w2.heap.size, 2, none⟩ (.int .i64 k)).cell? ⟨w2.heap.size, 1, none⟩ = some (.int .i64 b) := by rw [cell_of_row _ _ _ _ _ _ HF107.out]; rfl
            have hc115 : (W8.setCell ⟨w2.heap.size, 2, none⟩ (.int .i64 k)).cell? ⟨w2.heap.size, 2, none⟩ = some (.int .i64 k) := by rw [cell_of_row _ _ _ _ _ _ HF107.out]; rfl
            have hc116 : (W8.setCell ⟨w2.heap.size, 2, none⟩ (.int .i64 k)).cell? ⟨w2.heap.size, 3, none⟩ = some (.string ⟨#[]⟩) := by rw [cell_of_row _ _ _ _ _ _ HF107.out]; rfl
            have hc117 : (W8.setCell ⟨w2.heap.size, 2, none⟩ (.int .i64 k)).cell? ⟨w2.heap.size, 4, none⟩ = some (.string ⟨#[]⟩) := by rw [cell_of_row _ _ _ _ _ _ HF107.out]; rfl
            have hc118 : (W8.setCell ⟨w2.heap.size, 2, none⟩ (.int .i64 k)).cell? ⟨w2.heap.size, 5, none⟩ = some (.string ⟨#[]⟩) := by rw [cell_of_row _ _ _ _ _ _ HF107.out]; rfl
            have hc119 : (W8.setCell ⟨w2.heap.size, 2, none⟩ (.int .i64 k)).cell? ⟨w2.heap.size, 6, none⟩ = some (.int .i64 0) := by rw [cell_of_row _ _ _ _ _ _ HF107.out]; rfl
            have hc120 : (W8.setCell ⟨w2.heap.size, 2, none⟩ (.int .i64 k)).cell? ⟨w2.heap.size, 7, none⟩ = some (.int .i64 0) := by rw [cell_of_row _ _ _ _ _ _ HF107.out]; rfl
            go_wp2_with fail
            refine (H4.out (W8.setCell ⟨w2.heap.size, 2, none⟩ (.int .i64 k))).mono ?_
            rintro e w9 ⟨rfl, hb9⟩
            clear hc94 hc95 hc96 hc97 hc98 hc99 hc100 hc101 hc102 hc103 hc104 hz105 hc110 hc111 hc112 hc113 hc114 hc115 hc116 hc117 hc118 hc119 hc120
            have HF121 := Lib.hid (blk_below HF106.out hb9)
            have HF122 := Lib.hid (blk_below HF107.out hb9)
            have HF123 := Lib.hid (blk_below HF108.out hb9)
            have HB124 := Lib.hid (HB109.out.trans (hb9.mono HB109.out.size))
            clear hb9 HB109 HF106 HF107 HF108
            go_wp2_with (first
              | refine wpList_store_rowY rfl 213 (.tmp 8) (.tmp 54) rfl (w2.heap.size + 1) #[.string Y, .int .i64 (q4 : Int), .int .i64 e4] rfl rfl 213 _ HF123.out (info_scE _ _ _) rfl (one_scE _ _ _) w.heap.size w HB124.out (by omega) ?_)
            intro W10 hbk hoth hbel _
            have HF125 := Lib.hid (blk_oth HF121.out hoth.out (by omega))
            have HF126 := Lib.hid (blk_oth HF122.out hoth.out (by omega))
            have HF127 := Lib.hid hbk.out
            have HB128 := Lib.hid hbel.out
            clear hbk hoth hbel HB124  HF121 HF122 HF123
            have hc129 : W10.cell? ⟨w2.heap.size, 0, none⟩ = some (.int .i64 a) := by rw [cell_of_row _ _ _ _ _ _ HF126.out]; rfl
            have hc130 : W10.cell? ⟨w2.heap.size, 1, none⟩ = some (.int .i64 b) := by rw [cell_of_row _ _ _ _ _ _ HF126.out]; rfl
            have hc131 : W10.cell? ⟨w2.heap.size, 2, none⟩ = some (.int .i64 k) := by rw [cell_of_row _ _ _ _ _ _ HF126.out]; rfl
            have hc132 : W10.cell? ⟨w2.heap.size, 3, none⟩ = some (.string ⟨#[]⟩) := by rw [cell_of_row _ _ _ _ _ _ HF126.out]; rfl
            have hc133 : W10.cell? ⟨w2.heap.size, 4, none⟩ = some (.string ⟨#[]⟩) := by rw [cell_of_row _ _ _ _ _ _ HF126.out]; rfl
            have hc134 : W10.cell? ⟨w2.heap.size, 5, none⟩ = some (.string ⟨#[]⟩) := by rw [cell_of_row _ _ _ _ _ _ HF126.out]; rfl
            have hc135 : W10.cell? ⟨w2.heap.size, 6, none⟩ = some (.int .i64 0) := by rw [cell_of_row _ _ _ _ _ _ HF126.out]; rfl
            have hc136 : W10.cell? ⟨w2.heap.size, 7, none⟩ = some (.int .i64 0) := by rw [cell_of_row _ _ _ _ _ _ HF126.out]; rfl
            have hc137 : W10.cell? ⟨w2.heap.size + 1, 0, none⟩ = some (.string Y) := by rw [cell_of_row _ _ _ _ _ _ HF127.out]; rfl
            have hc138 : W10.cell? ⟨w2.heap.size + 1, 1, none⟩ = some (.int .i64 (q4 : Int)) := by rw [cell_of_row _ _ _ _ _ _ HF127.out]; rfl
            have hc139 : W10.cell? ⟨w2.heap.size + 1, 2, none⟩ = some (.int .i64 e4) := by rw [cell_of_row _ _ _ _ _ _ HF127.out]; rfl
            have hz140 : W10.frozen? ⟨w2.heap.size, 3, none⟩ = false := frozen_of_row _ _ _ _ _ HF126.out
            have HF141 := Lib.hid (show (W10.setCell ⟨w2.heap.size, 3, none⟩ (.string x)).heap[w.heap.size]? = some (.cells #[.int .i64 0, .int .i64 0, .int .i64 0, .string ⟨#[]⟩, .string ⟨#[]⟩, .string ⟨#[]⟩, .int .i64 0, .int .i64 0] 42 (0, 0)) by rw [Below.heap_setCell _ _ _ _ (by show w.heap.size ≠ w2.heap.size; omega)]; exact HF125.out)
            have HF142 := Lib.hid (show (W10.setCell ⟨w2.heap.size, 3, none⟩ (.string x)).heap[w2.heap.size]? = some (.cells #[.int .i64 a, .int .i64 b, .int .i64 k, .string x, .string ⟨#[]⟩, .string ⟨#[]⟩, .int .i64 0, .int .i64 0] 42 (0, 0)) by have h := heap_setCell_at (i := 3) (u := .string x) HF126.out; exact h)
            have HF143 := Lib.hid (show (W10.setCell ⟨w2.heap.size, 3, none⟩ (.string x)).heap[w2.heap.size + 1]? = some (.cells #[.string Y, .int .i64 (q4 : Int), .int .i64 e4] 213 (0, 0)) by rw [Below.heap_setCell _ _ _ _ (by show w2.heap.size + 1 ≠ w2.heap.size; omega)]; exact HF127.out)
            have HB144 := Lib.hid (HB128.out.setCell (p := ⟨w2.heap.size, 3, none⟩) (by show w.heap.size ≤ w2.heap.size; omega) (.string x))
            have hc145 : (W10.setCell ⟨w2.heap.size, 3, none⟩ (.string x)).cell? ⟨w2.heap.size + 1, 0, none⟩ = some (.string Y) := by rw [cell_of_row _ _ _ _ _ _ HF143.out]; rfl
            have hc146 : (W10.setCell ⟨w2.heap.size, 3, none⟩ (.string x)).cell? ⟨w2.heap.size + 1, 1, none⟩ = some (.int .i64 (q4 : Int)) := by rw [cell_of_row _ _ _ _ _ _ HF143.out]; rfl
            have hc147 : (W10.setCell ⟨w2.heap.size, 3, none⟩ (.string x)).cell? ⟨w2.heap.size + 1, 2, none⟩ = some (.int .i64 e4) := by rw [cell_of_row _ _ _ _ _ _ HF143.out]; rfl
            have hc148 : (W10.setCell ⟨w2.heap.size, 3, none⟩ (.string x)).cell? ⟨w2.heap.size, 0, none⟩ = some (.int .i64 a) := by rw [cell_of_row _ _ _ _ _ _ HF142.out]; rfl
            have hc149 : (W10.setCell ⟨w2.heap.size, 3, none⟩ (.string x)).cell? ⟨w2.heap.size, 1, none⟩ = some (.int .i64 b) := by rw [cell_of_row _ _ _ _ _ _ HF142.out]; rfl
            have hc150 : (W10.setCell ⟨w2.heap.size, 3, none⟩ (.string x)).cell? ⟨w2.heap.size, 2, none⟩ = some (.int .i64 k) := by rw [cell_of_row _ _ _ _ _ _ HF142.out]; rfl
            have hc151 : (W10.setCell ⟨w2.heap.size, 3, none⟩ (.string x)).cell? ⟨w2.heap.size, 3, none⟩ = some (.string x) := by rw [cell_of_row _ _ _ _ _ _ HF142.out]; rfl
            have hc152 : (W10.setCell ⟨w2.heap.size, 3, none⟩ (.string x)).cell? ⟨w2.heap.size, 4, none⟩ = some (.string ⟨#[]⟩) := by rw [cell_of_row _ _ _ _ _ _ HF142.out]; rfl
            have hc153 : (W10.setCell ⟨w2.heap.size, 3, none⟩ (.string x)).cell? ⟨w2.heap.size, 5, none⟩ = some (.string ⟨#[]⟩) := by rw [cell_of_row _ _ _ _ _ _ HF142.out]; rfl
            have hc154 : (W10.setCell ⟨w2.heap.size, 3, none⟩ (.string x)).cell? ⟨w2.heap.size, 6, none⟩ = some (.int .i64 0) := by rw [cell_of_row _ _ _ _ _ _ HF142.out]; rfl
            have hc155 : (W10.setCell ⟨w2.heap.size, 3, none⟩ (.string x)).cell? ⟨w2.heap.size, 7, none⟩ = some (.int .i64 0) := by rw [cell_of_row _ _ _ _ _ _ HF142.out]; rfl
            go_wp2_with fail
            refine (H5.out (W10.setCell ⟨w2.heap.size, 3, none⟩ (.string x))).mono ?_
            rintro e w11 ⟨rfl, hb11⟩
            clear hc129 hc130 hc131 hc132 hc133 hc134 hc135 hc136 hc137 hc138 hc139 hz140 hc145 hc146 hc147 hc148 hc149 hc150 hc151 hc152 hc153 hc154 hc155
            have HF156 := Lib.hid (blk_below HF141.out hb11)
            have HF157 := Lib.hid (blk_below HF142.out hb11)
            have HF158 := Lib.hid (blk_below HF143.out hb11)
            have HB159 := Lib.hid (HB144.out.trans (hb11.mono HB144.out.size))
            clear hb11 HB144 HF141 HF142 HF143
            go_wp2_with (first
              | refine wpList_store_rowY rfl 213 (.tmp 8) (.tmp 60) rfl (w2.heap.size + 1) #[.string Y, .int .i64 (q5 : Int), .int .i64 e5] rfl rfl 213 _ HF158.out (info_scE _ _ _) rfl (one_scE _ _ _) w.heap.size w HB159.out (by omega) ?_)
            intro W12 hbk hoth hbel _
            have HF160 := Lib.hid (blk_oth HF156.out hoth.out (by omega))
            have HF161 := Lib.hid (blk_oth HF157.out hoth.out (by omega))
            have HF162 := Lib.hid hbk.out
            have HB163 := Lib.hid hbel.out
            clear hbk hoth hbel HB159  HF156 HF157 HF158
            have hc164 : W12.cell? ⟨w2.heap.size, 0, none⟩ = some (.int .i64 a) := by rw [cell_of_row _ _ _ _ _ _ HF161.out]; rfl
            have hc165 : W12.cell? ⟨w2.heap.size, 1, none⟩ = some (.int .i64 b) := by rw [cell_of_row _ _ _ _ _ _ HF161.out]; rfl
            have hc166 : W12.cell? ⟨w2.heap.size, 2, none⟩ = some (.int .i64 k) := by rw [cell_of_row _ _ _ _ _ _ HF161.out]; rfl
            have hc167 : W12.cell? ⟨w2.heap.size, 3, none⟩ = some (.string x) := by rw [cell_of_row _ _ _ _ _ _ HF161.out]; rfl
            have hc168 : W12.cell? ⟨w2.heap.size, 4, none⟩ = some (.string ⟨#[]⟩) := by rw [cell_of_row _ _ _ _ _ _ HF161.out]; rfl
            have hc169 : W12.cell? ⟨w2.heap.size, 5, none⟩ = some (.string ⟨#[]⟩) := by rw [cell_of_row _ _ _ _ _ _ HF161.out]; rfl
            have hc170 : W12.cell? ⟨w2.heap.size, 6, none⟩ = some (.int .i64 0) := by rw [cell_of_row _ _ _ _ _ _ HF161.out]; rfl
            have hc171 : W12.cell? ⟨w2.heap.size, 7, none⟩ = some (.int .i64 0) := by rw [cell_of_row _ _ _ _ _ _ HF161.out]; rfl
            have hc172 : W12.cell? ⟨w2.heap.size + 1, 0, none⟩ = some (.string Y) := by rw [cell_of_row _ _ _ _ _ _ HF162.out]; rfl
            have hc173 : W12.cell? ⟨w2.heap.size + 1, 1, none⟩ = some (.int .i64 (q5 : Int)) := by rw [cell_of_row _ _ _ _ _ _ HF162.out]; rfl
            have hc174 : W12.cell? ⟨w2.heap.size + 1, 2, none⟩ = some (.int .i64 e5) := by rw [cell_of_row _ _ _ _ _ _ HF162.out]; rfl
            have hz175 : W12.frozen? ⟨w2.heap.size, 4, none⟩ = false := frozen_of_row _ _ _ _ _ HF161.out
            have HF176 := Lib.hid (show (W12.setCell ⟨w2.heap.size, 4, none⟩ (.string o)).heap[w.heap.size]? = some (.cells #[.int .i64 0, .int .i64 0, .int .i64 0, .string ⟨#[]⟩, .string ⟨#[]⟩, .string ⟨#[]⟩, .int .i64 0, .int .i64 0] 42 (0, 0)) by rw [Below.heap_setCell _ _ _ _ (by show w.heap.size ≠ w2.heap.size; omega)]; exact HF160.out)
            have HF177 := Lib.hid (show (W12.setCell ⟨w2.heap.size, 4, none⟩ (.string o)).heap[w2.heap.size]? = some (.cells #[.int .i64 a, .int .i64 b, .int .i64 k, .string x, .string o, .string ⟨#[]⟩, .int .i64 0, .int .i64 0] 42 (0, 0)) by have h := heap_setCell_at (i := 4) (u := .string o) HF161.out; exact h)
            have HF178 := Lib.hid (show (W12.setCell ⟨w2.heap.size, 4, none⟩ (.string o)).heap[w2.heap.size + 1]? = some (.cells #[.string Y, .int .i64 (q5 : Int), .int .i64 e5] 213 (0, 0)) by rw [Below.heap_setCell _ _ _ _ (by show w2.heap.size + 1 ≠ w2.heap.size; omega)]; exact HF162.out)
            have HB179 := Lib.hid (HB163.out.setCell (p := ⟨w2.heap.size, 4, none⟩) (by show w.heap.size ≤ w2.heap.size; omega) (.string o))
            have hc180 : (W12.setCell ⟨w2.heap.size, 4, none⟩ (.string o)).cell? ⟨w2.heap.size + 1, 0, none⟩ = some (.string Y) := by rw [cell_of_row _ _ _ _ _ _ HF178.out]; rfl
            have hc181 : (W12.setCell ⟨w2.heap.size, 4, none⟩ (.string o)).cell? ⟨w2.heap.size + 1, 1, none⟩ = some (.int .i64 (q5 : Int)) := by rw [cell_of_row _ _ _ _ _ _ HF178.out]; rfl
            have hc182 : (W12.setCell ⟨w2.heap.size, 4, none⟩ (.string o)).cell? ⟨w2.heap.size + 1, 2, none⟩ = some (.int .i64 e5) := by rw [cell_of_row _ _ _ _ _ _ HF178.out]; rfl
            have hc183 : (W12.setCell ⟨w2.heap.size, 4, none⟩ (.string o)).cell? ⟨w2.heap.size, 0, none⟩ = some (.int .i64 a) := by rw [cell_of_row _ _ _ _ _ _ HF177.out]; rfl
            have hc184 : (W12.setCell ⟨w2.heap.size, 4, none⟩ (.string o)).cell? ⟨w2.heap.size, 1, none⟩ = some (.int .i64 b) := by rw [cell_of_row _ _ _ _ _ _ HF177.out]; rfl
            have hc185 : (W12.setCell ⟨w2.heap.size, 4, none⟩ (.string o)).cell? ⟨w2.heap.size, 2, none⟩ = some (.int .i64 k) := by rw [cell_of_row _ _ _ _ _ _ HF177.out]; rfl
            have hc186 : (W12.setCell ⟨w2.heap.size, 4, none⟩ (.string o)).cell? ⟨w2.heap.size, 3, none⟩ = some (.string x) := by rw [cell_of_row _ _ _ _ _ _ HF177.out]; rfl
            have hc187 : (W12.setCell ⟨w2.heap.size, 4, none⟩ (.string o)).cell? ⟨w2.heap.size, 4, none⟩ = some (.string o) := by rw [cell_of_row _ _ _ _ _ _ HF177.out]; rfl
            have hc188 : (W12.setCell ⟨w2.heap.size, 4, none⟩ (.string o)).cell? ⟨w2.heap.size, 5, none⟩ = some (.string ⟨#[]⟩) := by rw [cell_of_row _ _ _ _ _ _ HF177.out]; rfl
            have hc189 : (W12.setCell ⟨w2.heap.size, 4, none⟩ (.string o)).cell? ⟨w2.heap.size, 6, none⟩ = some (.int .i64 0) := by rw [cell_of_row _ _ _ _ _ _ HF177.out]; rfl
            have hc190 : (W12.setCell ⟨w2.heap.size, 4, none⟩ (.string o)).cell? ⟨w2.heap.size, 7, none⟩ = some (.int .i64 0) := by rw [cell_of_row _ _ _ _ _ _ HF177.out]; rfl
            go_wp2_with fail
            refine (H6.out (W12.setCell ⟨w2.heap.size, 4, none⟩ (.string o))).mono ?_
            rintro e w13 ⟨rfl, hb13⟩
            clear hc164 hc165 hc166 hc167 hc168 hc169 hc170 hc171 hc172 hc173 hc174 hz175 hc180 hc181 hc182 hc183 hc184 hc185 hc186 hc187 hc188 hc189 hc190
            have HF191 := Lib.hid (blk_below HF176.out hb13)
            have HF192 := Lib.hid (blk_below HF177.out hb13)
            have HF193 := Lib.hid (blk_below HF178.out hb13)
            have HB194 := Lib.hid (HB179.out.trans (hb13.mono HB179.out.size))
            clear hb13 HB179 HF176 HF177 HF178
            go_wp2_with (first
              | refine wpList_store_rowY rfl 213 (.tmp 8) (.tmp 66) rfl (w2.heap.size + 1) #[.string Y, .int .i64 (q6 : Int), .int .i64 e6] rfl rfl 213 _ HF193.out (info_scE _ _ _) rfl (one_scE _ _ _) w.heap.size w HB194.out (by omega) ?_)
            intro W14 hbk hoth hbel _
            have HF195 := Lib.hid (blk_oth HF191.out hoth.out (by omega))
            have HF196 := Lib.hid (blk_oth HF192.out hoth.out (by omega))
            have HF197 := Lib.hid hbk.out
            have HB198 := Lib.hid hbel.out
            clear hbk hoth hbel HB194  HF191 HF192 HF193
            have hc199 : W14.cell? ⟨w2.heap.size, 0, none⟩ = some (.int .i64 a) := by rw [cell_of_row _ _ _ _ _ _ HF196.out]; rfl
            have hc200 : W14.cell? ⟨w2.heap.size, 1, none⟩ = some (.int .i64 b) := by rw [cell_of_row _ _ _ _ _ _ HF196.out]; rfl
            have hc201 : W14.cell? ⟨w2.heap.size, 2, none⟩ = some (.int .i64 k) := by rw [cell_of_row _ _ _ _ _ _ HF196.out]; rfl
            have hc202 : W14.cell? ⟨w2.heap.size, 3, none⟩ = some (.string x) := by rw [cell_of_row _ _ _ _ _ _ HF196.out]; rfl
            have hc203 : W14.cell? ⟨w2.heap.size, 4, none⟩ = some (.string o) := by rw [cell_of_row _ _ _ _ _ _ HF196.out]; rfl
            have hc204 : W14.cell? ⟨w2.heap.size, 5, none⟩ = some (.string ⟨#[]⟩) := by rw [cell_of_row _ _ _ _ _ _ HF196.out]; rfl
            have hc205 : W14.cell? ⟨w2.heap.size, 6, none⟩ = some (.int .i64 0) := by rw [cell_of_row _ _ _ _ _ _ HF196.out]; rfl
            have hc206 : W14.cell? ⟨w2.heap.size, 7, none⟩ = some (.int .i64 0) := by rw [cell_of_row _ _ _ _ _ _ HF196.out]; rfl
            have hc207 : W14.cell? ⟨w2.heap.size + 1, 0, none⟩ = some (.string Y) := by rw [cell_of_row _ _ _ _ _ _ HF197.out]; rfl
            have hc208 : W14.cell? ⟨w2.heap.size + 1, 1, none⟩ = some (.int .i64 (q6 : Int)) := by rw [cell_of_row _ _ _ _ _ _ HF197.out]; rfl
            have hc209 : W14.cell? ⟨w2.heap.size + 1, 2, none⟩ = some (.int .i64 e6) := by rw [cell_of_row _ _ _ _ _ _ HF197.out]; rfl
            have hz210 : W14.frozen? ⟨w2.heap.size, 5, none⟩ = false := frozen_of_row _ _ _ _ _ HF196.out
            have HF211 := Lib.hid (show (W14.setCell ⟨w2.heap.size, 5, none⟩ (.string n)).heap[w.heap.size]? = some (.cells #[.int .i64 0, .int .i64 0, .int .i64 0, .string ⟨#[]⟩, .string ⟨#[]⟩, .string ⟨#[]⟩, .int .i64 0, .int .i64 0] 42 (0, 0)) by rw [Below.heap_setCell _ _ _ _ (by show w.heap.size ≠ w2.heap.size; omega)]; exact HF195.out)
            have HF212 := Lib.hid (show (W14.setCell ⟨w2.heap.size, 5, none⟩ (.string n)).heap[w2.heap.size]? = some (.cells #[.int .i64 a, .int .i64 b, .int .i64 k, .string x, .string o, .string n, .int .i64 0, .int .i64 0] 42 (0, 0)) by have h := heap_setCell_at (i := 5) (u := .string n) HF196.out; exact h)
            have HF213 := Lib.hid (show (W14.setCell ⟨w2.heap.size, 5, none⟩ (.string n)).heap[w2.heap.size + 1]? = some (.cells #[.string Y, .int .i64 (q6 : Int), .int .i64 e6] 213 (0, 0)) by rw [Below.heap_setCell _ _ _ _ (by show w2.heap.size + 1 ≠ w2.heap.size; omega)]; exact HF197.out)
            have HB214 := Lib.hid (HB198.out.setCell (p := ⟨w2.heap.size, 5, none⟩) (by show w.heap.size ≤ w2.heap.size; omega) (.string n))
            have hc215 : (W14.setCell ⟨w2.heap.size, 5, none⟩ (.string n)).cell? ⟨w2.heap.size + 1, 0, none⟩ = some (.string Y) := by rw [cell_of_row _ _ _ _ _ _ HF213.out]; rfl
            have hc216 : (W14.setCell ⟨w2.heap.size, 5, none⟩ (.string n)).cell? ⟨w2.heap.size + 1, 1, none⟩ = some (.int .i64 (q6 : Int)) := by rw [cell_of_row _ _ _ _ _ _ HF213.out]; rfl
            have hc217 : (W14.setCell ⟨w2.heap.size, 5, none⟩ (.string n)).cell? ⟨w2.heap.size + 1, 2, none⟩ = some (.int .i64 e6) := by rw [cell_of_row _ _ _ _ _ _ HF213.out]; rfl
            have hc218 : (W14.setCell ⟨w2.heap.size, 5, none⟩ (.string n)).cell? ⟨w2.heap.size, 0, none⟩ = some (.int .i64 a) := by rw [cell_of_row _ _ _ _ _ _ HF212.out]; rfl
            have hc219 : (W14.setCell ⟨w2.heap.size, 5, none⟩ (.string n)).cell? ⟨w2.heap.size, 1, none⟩ = some (.int .i64 b) := by rw [cell_of_row _ _ _ _ _ _ HF212.out]; rfl
            have hc220 : (W14.setCell ⟨w2.heap.size, 5, none⟩ (.string n)).cell? ⟨w2.heap.size, 2, none⟩ = some (.int .i64 k) := by rw [cell_of_row _ _ _ _ _ _ HF212.out]; rfl
            have hc221 : (W14.setCell ⟨w2.heap.size, 5, none⟩ (.string n)).cell? ⟨w2.heap.size, 3, none⟩ = some (.string x) := by rw [cell_of_row _ _ _ _ _ _ HF212.out]; rfl
            have hc222 : (W14.setCell ⟨w2.heap.size, 5, none⟩ (.string n)).cell? ⟨w2.heap.size, 4, none⟩ = some (.string o) := by rw [cell_of_row _ _ _ _ _ _ HF212.out]; rfl
            have hc223 : (W14.setCell ⟨w2.heap.size, 5, none⟩ (.string n)).cell? ⟨w2.heap.size, 5, none⟩ = some (.string n) := by rw [cell_of_row _ _ _ _ _ _ HF212.out]; rfl
            have hc224 : (W14.setCell ⟨w2.heap.size, 5, none⟩ (.string n)).cell? ⟨w2.heap.size, 6, none⟩ = some (.int .i64 0) := by rw [cell_of_row _ _ _ _ _ _ HF212.out]; rfl
            have hc225 : (W14.setCell ⟨w2.heap.size, 5, none⟩ (.string n)).cell? ⟨w2.heap.size, 7, none⟩ = some (.int .i64 0) := by rw [cell_of_row _ _ _ _ _ _ HF212.out]; rfl
            go_wp2_with fail
            refine (H7.out (W14.setCell ⟨w2.heap.size, 5, none⟩ (.string n))).mono ?_
            rintro e w15 ⟨rfl, hb15⟩
            clear hc199 hc200 hc201 hc202 hc203 hc204 hc205 hc206 hc207 hc208 hc209 hz210 hc215 hc216 hc217 hc218 hc219 hc220 hc221 hc222 hc223 hc224 hc225
            have HF226 := Lib.hid (blk_below HF211.out hb15)
            have HF227 := Lib.hid (blk_below HF212.out hb15)
            have HF228 := Lib.hid (blk_below HF213.out hb15)
            have HB229 := Lib.hid (HB214.out.trans (hb15.mono HB214.out.size))
            clear hb15 HB214 HF211 HF212 HF213
            go_wp2_with (first
              | refine wpList_store_rowY rfl 213 (.tmp 8) (.tmp 72) rfl (w2.heap.size + 1) #[.string Y, .int .i64 (q7 : Int), .int .i64 e7] rfl rfl 213 _ HF228.out (info_scE _ _ _) rfl (one_scE _ _ _) w.heap.size w HB229.out (by omega) ?_)
            intro W16 hbk hoth hbel _
            have HF230 := Lib.hid (blk_oth HF226.out hoth.out (by omega))
            have HF231 := Lib.hid (blk_oth HF227.out hoth.out (by omega))
            have HF232 := Lib.hid hbk.out
            have HB233 := Lib.hid hbel.out
            clear hbk hoth hbel HB229  HF226 HF227 HF228
            have hc234 : W16.cell? ⟨w2.heap.size, 0, none⟩ = some (.int .i64 a) := by rw [cell_of_row _ _ _ _ _ _ HF231.out]; rfl
            have hc235 : W16.cell? ⟨w2.heap.size, 1, none⟩ = some (.int .i64 b) := by rw [cell_of_row _ _ _ _ _ _ HF231.out]; rfl
            have hc236 : W16.cell? ⟨w2.heap.size, 2, none⟩ = some (.int .i64 k) := by rw [cell_of_row _ _ _ _ _ _ HF231.out]; rfl
            have hc237 : W16.cell? ⟨w2.heap.size, 3, none⟩ = some (.string x) := by rw [cell_of_row _ _ _ _ _ _ HF231.out]; rfl
            have hc238 : W16.cell? ⟨w2.heap.size, 4, none⟩ = some (.string o) := by rw [cell_of_row _ _ _ _ _ _ HF231.out]; rfl
            have hc239 : W16.cell? ⟨w2.heap.size, 5, none⟩ = some (.string n) := by rw [cell_of_row _ _ _ _ _ _ HF231.out]; rfl
            have hc240 : W16.cell? ⟨w2.heap.size, 6, none⟩ = some (.int .i64 0) := by rw [cell_of_row _ _ _ _ _ _ HF231.out]; rfl
            have hc241 : W16.cell? ⟨w2.heap.size, 7, none⟩ = some (.int .i64 0) := by rw [cell_of_row _ _ _ _ _ _ HF231.out]; rfl
            have hc242 : W16.cell? ⟨w2.heap.size + 1, 0, none⟩ = some (.string Y) := by rw [cell_of_row _ _ _ _ _ _ HF232.out]; rfl
            have hc243 : W16.cell? ⟨w2.heap.size + 1, 1, none⟩ = some (.int .i64 (q7 : Int)) := by rw [cell_of_row _ _ _ _ _ _ HF232.out]; rfl
            have hc244 : W16.cell? ⟨w2.heap.size + 1, 2, none⟩ = some (.int .i64 e7) := by rw [cell_of_row _ _ _ _ _ _ HF232.out]; rfl
            have hz245 : W16.frozen? ⟨w2.heap.size, 6, none⟩ = false := frozen_of_row _ _ _ _ _ HF231.out
            have HF246 := Lib.hid (show (W16.setCell ⟨w2.heap.size, 6, none⟩ (.int .i64 t)).heap[w.heap.size]? = some (.cells #[.int .i64 0, .int .i64 0, .int .i64 0, .string ⟨#[]⟩, .string ⟨#[]⟩, .string ⟨#[]⟩, .int .i64 0, .int .i64 0] 42 (0, 0)) by rw [Below.heap_setCell _ _ _ _ (by show w.heap.size ≠ w2.heap.size; omega)]; exact HF230.out)
            have HF247 := Lib.hid (show (W16.setCell ⟨w2.heap.size, 6, none⟩ (.int .i64 t)).heap[w2.heap.size]? = some (.cells #[.int .i64 a, .int .i64 b, .int .i64 k, .string x, .string o, .string n, .int .i64 t, .int .i64 0] 42 (0, 0)) by have h := heap_setCell_at (i := 6) (u := .int .i64 t) HF231.out; exact h)
            have HF248 := Lib.hid (show (W16.setCell ⟨w2.heap.size, 6, none⟩ (.int .i64 t)).heap[w2.heap.size + 1]? = some (.cells #[.string Y, .int .i64 (q7 : Int), .int .i64 e7] 213 (0, 0)) by rw [Below.heap_setCell _ _ _ _ (by show w2.heap.size + 1 ≠ w2.heap.size; omega)]; exact HF232.out)
            have HB249 := Lib.hid (HB233.out.setCell (p := ⟨w2.heap.size, 6, none⟩) (by show w.heap.size ≤ w2.heap.size; omega) (.int .i64 t))
            have hc250 : (W16.setCell ⟨w2.heap.size, 6, none⟩ (.int .i64 t)).cell? ⟨w2.heap.size + 1, 0, none⟩ = some (.string Y) := by rw [cell_of_row _ _ _ _ _ _ HF248.out]; rfl
            have hc251 : (W16.setCell ⟨w2.heap.size, 6, none⟩ (.int .i64 t)).cell? ⟨w2.heap.size + 1, 1, none⟩ = some (.int .i64 (q7 : Int)) := by rw [cell_of_row _ _ _ _ _ _ HF248.out]; rfl
            have hc252 : (W16.setCell ⟨w2.heap.size, 6, none⟩ (.int .i64 t)).cell? ⟨w2.heap.size + 1, 2, none⟩ = some (.int .i64 e7) := by rw [cell_of_row _ _ _ _ _ _ HF248.out]; rfl
            have hc253 : (W16.setCell ⟨w2.heap.size, 6, none⟩ (.int .i64 t)).cell? ⟨w2.heap.size, 0, none⟩ = some (.int .i64 a) := by rw [cell_of_row _ _ _ _ _ _ HF247.out]; rfl
            have hc254 : (W16.setCell ⟨w2.heap.size, 6, none⟩ (.int .i64 t)).cell? ⟨w2.heap.size, 1, none⟩ = some (.int .i64 b) := by rw [cell_of_row _ _ _ _ _ _ HF247.out]; rfl
            have hc255 : (W16.setCell ⟨w2.heap.size, 6, none⟩ (.int .i64 t)).cell? ⟨w2.heap.size, 2, none⟩ = some (.int .i64 k) := by rw [cell_of_row _ _ _ _ _ _ HF247.out]; rfl
            have hc256 : (W16.setCell ⟨w2.heap.size, 6, none⟩ (.int .i64 t)).cell? ⟨w2.heap.size, 3, none⟩ = some (.string x) := by rw [cell_of_row _ _ _ _ _ _ HF247.out]; rfl
            have hc257 : (W16.setCell ⟨w2.heap.size, 6, none⟩ (.int .i64 t)).cell? ⟨w2.heap.size, 4, none⟩ = some (.string o) := by rw [cell_of_row _ _ _ _ _ _ HF247.out]; rfl
            have hc258 : (W16.setCell ⟨w2.heap.size, 6, none⟩ (.int .i64 t)).cell? ⟨w2.heap.size, 5, none⟩ = some (.string n) := by rw [cell_of_row _ _ _ _ _ _ HF247.out]; rfl
            have hc259 : (W16.setCell ⟨w2.heap.size, 6, none⟩ (.int .i64 t)).cell? ⟨w2.heap.size, 6, none⟩ = some (.int .i64 t) := by rw [cell_of_row _ _ _ _ _ _ HF247.out]; rfl
            have hc260 : (W16.setCell ⟨w2.heap.size, 6, none⟩ (.int .i64 t)).cell? ⟨w2.heap.size, 7, none⟩ = some (.int .i64 0) := by rw [cell_of_row _ _ _ _ _ _ HF247.out]; rfl
            go_wp2_with fail
            refine (H8.out (W16.setCell ⟨w2.heap.size, 6, none⟩ (.int .i64 t))).mono ?_
            rintro e w17 ⟨rfl, hb17⟩
            clear hc234 hc235 hc236 hc237 hc238 hc239 hc240 hc241 hc242 hc243 hc244 hz245 hc250 hc251 hc252 hc253 hc254 hc255 hc256 hc257 hc258 hc259 hc260
            have HF261 := Lib.hid (blk_below HF246.out hb17)
            have HF262 := Lib.hid (blk_below HF247.out hb17)
            have HF263 := Lib.hid (blk_below HF248.out hb17)
            have HB264 := Lib.hid (HB249.out.trans (hb17.mono HB249.out.size))
            clear hb17 HB249 HF246 HF247 HF248
            go_wp2_with (first
              | refine wpList_store_rowY rfl 213 (.tmp 8) (.tmp 78) rfl (w2.heap.size + 1) #[.string Y, .int .i64 (q8 : Int), .int .i64 0] rfl rfl 213 _ HF263.out (info_scE _ _ _) rfl (one_scE _ _ _) w.heap.size w HB264.out (by omega) ?_)
            intro W18 hbk hoth hbel _
            have HF265 := Lib.hid (blk_oth HF261.out hoth.out (by omega))
            have HF266 := Lib.hid (blk_oth HF262.out hoth.out (by omega))
            have HF267 := Lib.hid hbk.out
            have HB268 := Lib.hid hbel.out
            clear hbk hoth hbel HB264  HF261 HF262 HF263
            have hc269 : W18.cell? ⟨w2.heap.size, 0, none⟩ = some (.int .i64 a) := by rw [cell_of_row _ _ _ _ _ _ HF266.out]; rfl
            have hc270 : W18.cell? ⟨w2.heap.size, 1, none⟩ = some (.int .i64 b) := by rw [cell_of_row _ _ _ _ _ _ HF266.out]; rfl
            have hc271 : W18.cell? ⟨w2.heap.size, 2, none⟩ = some (.int .i64 k) := by rw [cell_of_row _ _ _ _ _ _ HF266.out]; rfl
            have hc272 : W18.cell? ⟨w2.heap.size, 3, none⟩ = some (.string x) := by rw [cell_of_row _ _ _ _ _ _ HF266.out]; rfl
            have hc273 : W18.cell? ⟨w2.heap.size, 4, none⟩ = some (.string o) := by rw [cell_of_row _ _ _ _ _ _ HF266.out]; rfl
            have hc274 : W18.cell? ⟨w2.heap.size, 5, none⟩ = some (.string n) := by rw [cell_of_row _ _ _ _ _ _ HF266.out]; rfl
            have hc275 : W18.cell? ⟨w2.heap.size, 6, none⟩ = some (.int .i64 t) := by rw [cell_of_row _ _ _ _ _ _ HF266.out]; rfl
            have hc276 : W18.cell? ⟨w2.heap.size, 7, none⟩ = some (.int .i64 0) := by rw [cell_of_row _ _ _ _ _ _ HF266.out]; rfl
            have hc277 : W18.cell? ⟨w2.heap.size + 1, 0, none⟩ = some (.string Y) := by rw [cell_of_row _ _ _ _ _ _ HF267.out]; rfl
            have hc278 : W18.cell? ⟨w2.heap.size + 1, 1, none⟩ = some (.int .i64 (q8 : Int)) := by rw [cell_of_row _ _ _ _ _ _ HF267.out]; rfl
            have hc279 : W18.cell? ⟨w2.heap.size + 1, 2, none⟩ = some (.int .i64 0) := by rw [cell_of_row _ _ _ _ _ _ HF267.out]; rfl
            have hz280 : W18.frozen? ⟨w2.heap.size, 7, none⟩ = false := frozen_of_row _ _ _ _ _ HF266.out
            have HF281 := Lib.hid (show (W18.setCell ⟨w2.heap.size, 7, none⟩ (.int .i64 u)).heap[w.heap.size]? = some (.cells #[.int .i64 0, .int .i64 0, .int .i64 0, .string ⟨#[]⟩, .string ⟨#[]⟩, .string ⟨#[]⟩, .int .i64 0, .int .i64 0] 42 (0, 0)) by rw [Below.heap_setCell _ _ _ _ (by show w.heap.size ≠ w2.heap.size; omega)]; exact HF265.out)
            have HF282 := Lib.hid (show (W18.setCell ⟨w2.heap.size, 7, none⟩ (.int .i64 u)).heap[w2.heap.size]? = some (.cells #[.int .i64 a, .int .i64 b, .int .i64 k, .string x, .string o, .string n, .int .i64 t, .int .i64 u] 42 (0, 0)) by have h := heap_setCell_at (i := 7) (u := .int .i64 u) HF266.out; exact h)
            have HF283 := Lib.hid (show (W18.setCell ⟨w2.heap.size, 7, none⟩ (.int .i64 u)).heap[w2.heap.size + 1]? = some (.cells #[.string Y, .int .i64 (q8 : Int), .int .i64 0] 213 (0, 0)) by rw [Below.heap_setCell _ _ _ _ (by show w2.heap.size + 1 ≠ w2.heap.size; omega)]; exact HF267.out)
            have HB284 := Lib.hid (HB268.out.setCell (p := ⟨w2.heap.size, 7, none⟩) (by show w.heap.size ≤ w2.heap.size; omega) (.int .i64 u))
            have hc285 : (W18.setCell ⟨w2.heap.size, 7, none⟩ (.int .i64 u)).cell? ⟨w2.heap.size + 1, 0, none⟩ = some (.string Y) := by rw [cell_of_row _ _ _ _ _ _ HF283.out]; rfl
            have hc286 : (W18.setCell ⟨w2.heap.size, 7, none⟩ (.int .i64 u)).cell? ⟨w2.heap.size + 1, 1, none⟩ = some (.int .i64 (q8 : Int)) := by rw [cell_of_row _ _ _ _ _ _ HF283.out]; rfl
            have hc287 : (W18.setCell ⟨w2.heap.size, 7, none⟩ (.int .i64 u)).cell? ⟨w2.heap.size + 1, 2, none⟩ = some (.int .i64 0) := by rw [cell_of_row _ _ _ _ _ _ HF283.out]; rfl
            have hc288 : (W18.setCell ⟨w2.heap.size, 7, none⟩ (.int .i64 u)).cell? ⟨w2.heap.size, 0, none⟩ = some (.int .i64 a) := by rw [cell_of_row _ _ _ _ _ _ HF282.out]; rfl
            have hc289 : (W18.setCell ⟨w2.heap.size, 7, none⟩ (.int .i64 u)).cell? ⟨w2.heap.size, 1, none⟩ = some (.int .i64 b) := by rw [cell_of_row _ _ _ _ _ _ HF282.out]; rfl
            have hc290 : (W18.setCell ⟨w2.heap.size, 7, none⟩ (.int .i64 u)).cell? ⟨w2.heap.size, 2, none⟩ = some (.int .i64 k) := by rw [cell_of_row _ _ _ _ _ _ HF282.out]; rfl
            have hc291 : (W18.setCell ⟨w2.heap.size, 7, none⟩ (.int .i64 u)).cell? ⟨w2.heap.size, 3, none⟩ = some (.string x) := by rw [cell_of_row _ _ _ _ _ _ HF282.out]; rfl
            have hc292 : (W18.setCell ⟨w2.heap.size, 7, none⟩ (.int .i64 u)).cell? ⟨w2.heap.size, 4, none⟩ = some (.string o) := by rw [cell_of_row _ _ _ _ _ _ HF282.out]; rfl
            have hc293 : (W18.setCell ⟨w2.heap.size, 7, none⟩ (.int .i64 u)).cell? ⟨w2.heap.size, 5, none⟩ = some (.string n) := by rw [cell_of_row _ _ _ _ _ _ HF282.out]; rfl
            have hc294 : (W18.setCell ⟨w2.heap.size, 7, none⟩ (.int .i64 u)).cell? ⟨w2.heap.size, 6, none⟩ = some (.int .i64 t) := by rw [cell_of_row _ _ _ _ _ _ HF282.out]; rfl
            have hc295 : (W18.setCell ⟨w2.heap.size, 7, none⟩ (.int .i64 u)).cell? ⟨w2.heap.size, 7, none⟩ = some (.int .i64 u) := by rw [cell_of_row _ _ _ _ _ _ HF282.out]; rfl
            go_wp2_with fail
            refine (HIS.out (W18.setCell ⟨w2.heap.size, 7, none⟩ (.int .i64 u))).mono ?_
            rintro e w19 ⟨rfl, hb19⟩
            clear hc269 hc270 hc271 hc272 hc273 hc274 hc275 hc276 hc277 hc278 hc279 hz280 hc285 hc286 hc287 hc288 hc289 hc290 hc291 hc292 hc293 hc294 hc295
            have HF296 := Lib.hid (blk_below HF281.out hb19)
            have HF297 := Lib.hid (blk_below HF282.out hb19)
            have HF298 := Lib.hid (blk_below HF283.out hb19)
            have HB299 := Lib.hid (HB284.out.trans (hb19.mono HB284.out.size))
            clear hb19 HB284 HF281 HF282 HF283
            go_wp2_with (first
              | refine wpList_store_rowY rfl 42 (.tmp 2) (.tmp 95) rfl (w.heap.size) #[.int .i64 0, .int .i64 0, .int .i64 0, .string ⟨#[]⟩, .string ⟨#[]⟩, .string ⟨#[]⟩, .int .i64 0, .int .i64 0] rfl rfl 42 _ HF296.out (info_rec _ _ _ _ _ _ _ _) rfl (one_rec _ _ _ _ _ _ _ _) w.heap.size w HB299.out (by omega) ?_)
            intro W20 hbk hoth hbel _
            have HF300 := Lib.hid hbk.out
            have HF301 := Lib.hid (blk_oth HF297.out hoth.out (by omega))
            have HF302 := Lib.hid (blk_oth HF298.out hoth.out (by omega))
            have HB303 := Lib.hid hbel.out
            clear hbk hoth hbel HB299  HF296 HF297 HF298
            go_wp2_with fail
            refine bodyPost_ret (results_ctY rfl _ _ (w.heap.size) #[.int .i64 0, .int .i64 0, .int .i64 0, .string ⟨#[]⟩, .string ⟨#[]⟩, .string ⟨#[]⟩, .int .i64 0, .int .i64 0] rfl (run_loadVar_row _ (w.heap.size) 42 42 _ (0, 0) _ HF300.out Tryz.underlying42 rfl (info_rec _ _ _ _ _ _ _ _))) rfl ?_
            exact ⟨rfl, HB303.out⟩
          | true =>
            have hne : recD a b k x o n t u ≠ S := by
              unfold recD
              rw [if_pos hr]
              exact fun h => hrec hr h.symm
            rw [hr] at HIS
            generalize recD a b k x o n t u = Q at HPU hne
            have hq3 : (Q.toList == S.toList) = false := lstE2_no hne
            have hq4 : (Q.toList != S.toList) = true := by rw [bne, hq3]; rfl
            clear hr hrec hne
            have HB1 := Lib.hid (Below.refl w.heap.size w)
            go_enter Tryz.func88, Tryz.ntmps88
            go_wp2_with fail
            have HF2 := Lib.hid (blk_new w (.cells #[.int .i64 0, .int .i64 0, .int .i64 0, .string ⟨#[]⟩, .string ⟨#[]⟩, .string ⟨#[]⟩, .int .i64 0, .int .i64 0] 42 (0, 0)))
            have HB3 := Lib.hid (HB1.out.alloc HB1.out.size (.cells #[.int .i64 0, .int .i64 0, .int .i64 0, .string ⟨#[]⟩, .string ⟨#[]⟩, .string ⟨#[]⟩, .int .i64 0, .int .i64 0] 42 (0, 0)))
            clear HB1
            refine (HBR.out (w.alloc (.cells #[.int .i64 0, .int .i64 0, .int .i64 0, .string ⟨#[]⟩, .string ⟨#[]⟩, .string ⟨#[]⟩, .int .i64 0, .int .i64 0] 42 (0, 0)))).mono ?_
            rintro e w1 ⟨rfl, hb1⟩
            have HF4 := Lib.hid (blk_below HF2.out hb1)
            have HB5 := Lib.hid (HB3.out.trans (hb1.mono HB3.out.size))
            clear hb1 HB3 HF2
            go_wp2_with fail
            refine (HOP.out w1).mono ?_
            rintro e w2 ⟨rfl, hb2⟩
            have HF6 := Lib.hid (blk_below HF4.out hb2)
            have HB7 := Lib.hid (HB5.out.trans (hb2.mono HB5.out.size))
            clear hb2 HB5 HF4
            have hk8 : w.heap.size < w2.heap.size := lt_of_block HF6.out
            have HF9 := Lib.hid (blk_alloc HF6.out (.cells #[.int .i64 0, .int .i64 0, .int .i64 0, .string ⟨#[]⟩, .string ⟨#[]⟩, .string ⟨#[]⟩, .int .i64 0, .int .i64 0] 42 (0, 0)))
            have HF10 := Lib.hid (blk_new w2 (.cells #[.int .i64 0, .int .i64 0, .int .i64 0, .string ⟨#[]⟩, .string ⟨#[]⟩, .string ⟨#[]⟩, .int .i64 0, .int .i64 0] 42 (0, 0)))
            have HB11 := Lib.hid (HB7.out.alloc HB7.out.size (.cells #[.int .i64 0, .int .i64 0, .int .i64 0, .string ⟨#[]⟩, .string ⟨#[]⟩, .string ⟨#[]⟩, .int .i64 0, .int .i64 0] 42 (0, 0)))
            clear HB7
            have HF12 := Lib.hid (blk_alloc HF9.out (.cells #[.string Y, .int .i64 0, .int .i64 0] 213 (0, 0)))
            clear HF9
            have HF13 := Lib.hid (blk_alloc HF10.out (.cells #[.string Y, .int .i64 0, .int .i64 0] 213 (0, 0)))
            clear HF10
            have HF14 : Hid (((w2.alloc (.cells #[.int .i64 0, .int .i64 0, .int .i64 0, .string ⟨#[]⟩, .string ⟨#[]⟩, .string ⟨#[]⟩, .int .i64 0, .int .i64 0] 42 (0, 0))).alloc (.cells #[.string Y, .int .i64 0, .int .i64 0] 213 (0, 0))).heap[w2.heap.size + 1]? = some (.cells #[.string Y, .int .i64 0, .int .i64 0] 213 (0, 0))) := Lib.hid (blk_newN (W := (w2.alloc (.cells #[.int .i64 0, .int .i64 0, .int .i64 0, .string ⟨#[]⟩, .string ⟨#[]⟩, .string ⟨#[]⟩, .int .i64 0, .int .i64 0] 42 (0, 0)))) (o := (.cells #[.string Y, .int .i64 0, .int .i64 0] 213 (0, 0))) (by simp))
            have HB15 := Lib.hid (HB11.out.alloc (by have := HB11.out.size; simp at this ⊢ <;> omega) (.cells #[.string Y, .int .i64 0, .int .i64 0] 213 (0, 0)))
            clear HB11
            go_wp2_with fail
            refine (H1.out ((w2.alloc (.cells #[.int .i64 0, .int .i64 0, .int .i64 0, .string ⟨#[]⟩, .string ⟨#[]⟩, .string ⟨#[]⟩, .int .i64 0, .int .i64 0] 42 (0, 0))).alloc (.cells #[.string Y, .int .i64 0, .int .i64 0] 213 (0, 0)))).mono ?_
            rintro e w3 ⟨rfl, hb3⟩
            have HF16 := Lib.hid (blk_below HF12.out hb3)
            have HF17 := Lib.hid (blk_below HF13.out hb3)
            have HF18 := Lib.hid (blk_below HF14.out hb3)
            have HB19 := Lib.hid (HB15.out.trans (hb3.mono HB15.out.size))
            clear hb3 HB15 HF12 HF6 HF13 HF14
            go_wp2_with (first
              | refine wpList_store_rowY rfl 213 (.tmp 8) (.tmp 36) rfl (w2.heap.size + 1) #[.string Y, .int .i64 (q1 : Int), .int .i64 e1] rfl rfl 213 _ HF18.out (info_scE _ _ _) rfl (one_scE _ _ _) w.heap.size w HB19.out (by omega) ?_)
            intro W4 hbk hoth hbel _
            have HF20 := Lib.hid (blk_oth HF16.out hoth.out (by omega))
            have HF21 := Lib.hid (blk_oth HF17.out hoth.out (by omega))
            have HF22 := Lib.hid hbk.out
            have HB23 := Lib.hid hbel.out
            clear hbk hoth hbel HB19  HF16 HF17 HF18
            have hc24 : W4.cell? ⟨w2.heap.size, 0, none⟩ = some (.int .i64 0) := by rw [cell_of_row _ _ _ _ _ _ HF21.out]; rfl
            have hc25 : W4.cell? ⟨w2.heap.size, 1, none⟩ = some (.int .i64 0) := by rw [cell_of_row _ _ _ _ _ _ HF21.out]; rfl
            have hc26 : W4.cell? ⟨w2.heap.size, 2, none⟩ = some (.int .i64 0) := by rw [cell_of_row _ _ _ _ _ _ HF21.out]; rfl
            have hc27 : W4.cell? ⟨w2.heap.size, 3, none⟩ = some (.string ⟨#[]⟩) := by rw [cell_of_row _ _ _ _ _ _ HF21.out]; rfl
            have hc28 : W4.cell? ⟨w2.heap.size, 4, none⟩ = some (.string ⟨#[]⟩) := by rw [cell_of_row _ _ _ _ _ _ HF21.out]; rfl
            have hc29 : W4.cell? ⟨w2.heap.size, 5, none⟩ = some (.string ⟨#[]⟩) := by rw [cell_of_row _ _ _ _ _ _ HF21.out]; rfl
            have hc30 : W4.cell? ⟨w2.heap.size, 6, none⟩ = some (.int .i64 0) := by rw [cell_of_row _ _ _ _ _ _ HF21.out]; rfl
            have hc31 : W4.cell? ⟨w2.heap.size, 7, none⟩ = some (.int .i64 0) := by rw [cell_of_row _ _ _ _ _ _ HF21.out]; rfl
            have hc32 : W4.cell? ⟨w2.heap.size + 1, 0, none⟩ = some (.string Y) := by rw [cell_of_row _ _ _ _ _ _ HF22.out]; rfl
            have hc33 : W4.cell? ⟨w2.heap.size + 1, 1, none⟩ = some (.int .i64 (q1 : Int)) := by rw [cell_of_row _ _ _ _ _ _ HF22.out]; rfl
            have hc34 : W4.cell? ⟨w2.heap.size + 1, 2, none⟩ = some (.int .i64 e1) := by rw [cell_of_row _ _ _ _ _ _ HF22.out]; rfl
            have hz35 : W4.frozen? ⟨w2.heap.size, 0, none⟩ = false := frozen_of_row _ _ _ _ _ HF21.out
            have HF36 := Lib.hid (show (W4.setCell ⟨w2.heap.size, 0, none⟩ (.int .i64 a)).heap[w.heap.size]? = some (.cells #[.int .i64 0, .int .i64 0, .int .i64 0, .string ⟨#[]⟩, .string ⟨#[]⟩, .string ⟨#[]⟩, .int .i64 0, .int .i64 0] 42 (0, 0)) by rw [Below.heap_setCell _ _ _ _ (by show w.heap.size ≠ w2.heap.size; omega)]; exact HF20.out)
            have HF37 := Lib.hid (show (W4.setCell ⟨w2.heap.size, 0, none⟩ (.int .i64 a)).heap[w2.heap.size]? = some (.cells #[.int .i64 a, .int .i64 0, .int .i64 0, .string ⟨#[]⟩, .string ⟨#[]⟩, .string ⟨#[]⟩, .int .i64 0, .int .i64 0] 42 (0, 0)) by have h := heap_setCell_at (i := 0) (u := .int .i64 a) HF21.out; exact h)
            have HF38 := Lib.hid (show (W4.setCell ⟨w2.heap.size, 0, none⟩ (.int .i64 a)).heap[w2.heap.size + 1]? = some (.cells #[.string Y, .int .i64 (q1 : Int), .int .i64 e1] 213 (0, 0)) by rw [Below.heap_setCell _ _ _ _ (by show w2.heap.size + 1 ≠ w2.heap.size; omega)]; exact HF22.out)
            have HB39 := Lib.hid (HB23.out.setCell (p := ⟨w2.heap.size, 0, none⟩) (by show w.heap.size ≤ w2.heap.size; omega) (.int .i64 a))
            have hc40 : (W4.setCell ⟨w2.heap.size, 0, none⟩ (.int .i64 a)).cell? ⟨w2.heap.size + 1, 0, none⟩ = some (.string Y) := by rw [cell_of_row _ _ _ _ _ _ HF38.out]; rfl
            have hc41 : (W4.setCell ⟨w2.heap.size, 0, none⟩ (.int .i64 a)).cell? ⟨w2.heap.size + 1, 1, none⟩ = some (.int .i64 (q1 : Int)) := by rw [cell_of_row _ _ _ _ _ _ HF38.out]; rfl
            have hc42 : (W4.setCell ⟨w2.heap.size, 0, none⟩ (.int .i64 a)).cell? ⟨w2.heap.size + 1, 2, none⟩ = some (.int .i64 e1) := by rw [cell_of_row _ _ _ _ _ _ HF38.out]; rfl
            have hc43 : (W4.setCell ⟨w2.heap.size, 0, none⟩ (.int .i64 a)).cell? ⟨w2.heap.size, 0, none⟩ = some (.int .i64 a) := by rw [cell_of_row _ _ _ _ _ _ HF37.out]; rfl
            have hc44 : (W4.setCell ⟨w2.heap.size, 0, none⟩ (.int .i64 a)).cell? ⟨w2.heap.size, 1, none⟩ = some (.int .i64 0) := by rw [cell_of_row _ _ _ _ _ _ HF37.out]; rfl
            have hc45 : (W4.setCell ⟨w2.heap.size, 0, none⟩ (.int .i64 a)).cell? ⟨w2.heap.size, 2, none⟩ = some (.int .i64 0) := by rw [cell_of_row _ _ _ _ _ _ HF37.out]; rfl
            have hc46 : (W4.setCell ⟨w2.heap.size, 0, none⟩ (.int .i64 a)).cell? ⟨w2.heap.size, 3, none⟩ = some (.string ⟨#[]⟩) := by rw [cell_of_row _ _ _ _ _ _ HF37.out]; rfl
            have hc47 : (W4.setCell ⟨w2.heap.size, 0, none⟩ (.int .i64 a)).cell? ⟨w2.heap.size, 4, none⟩ = some (.string ⟨#[]⟩) := by rw [cell_of_row _ _ _ _ _ _ HF37.out]; rfl
            have hc48 : (W4.setCell ⟨w2.heap.size, 0, none⟩ (.int .i64 a)).cell? ⟨w2.heap.size, 5, none⟩ = some (.string ⟨#[]⟩) := by rw [cell_of_row _ _ _ _ _ _ HF37.out]; rfl
            have hc49 : (W4.setCell ⟨w2.heap.size, 0, none⟩ (.int .i64 a)).cell? ⟨w2.heap.size, 6, none⟩ = some (.int .i64 0) := by rw [cell_of_row _ _ _ _ _ _ HF37.out]; rfl
            have hc50 : (W4.setCell ⟨w2.heap.size, 0, none⟩ (.int .i64 a)).cell? ⟨w2.heap.size, 7, none⟩ = some (.int .i64 0) := by rw [cell_of_row _ _ _ _ _ _ HF37.out]; rfl
            go_wp2_with fail
            refine (H2.out (W4.setCell ⟨w2.heap.size, 0, none⟩ (.int .i64 a))).mono ?_
            rintro e w5 ⟨rfl, hb5⟩
            clear hc24 hc25 hc26 hc27 hc28 hc29 hc30 hc31 hc32 hc33 hc34 hz35 hc40 hc41 hc42 hc43 hc44 hc45 hc46 hc47 hc48 hc49 hc50
            have HF51 := Lib.hid (blk_below HF36.out hb5)
            have HF52 := Lib.hid (blk_below HF37.out hb5)
            have HF53 := Lib.hid (blk_below HF38.out hb5)
            have HB54 := Lib.hid (HB39.out.trans (hb5.mono HB39.out.size))
            clear hb5 HB39 HF36 HF37 HF38
            go_wp2_with (first
              | refine wpList_store_rowY rfl 213 (.tmp 8) (.tmp 42) rfl (w2.heap.size + 1) #[.string Y, .int .i64 (q2 : Int), .int .i64 e2] rfl rfl 213 _ HF53.out (info_scE _ _ _) rfl (one_scE _ _ _) w.heap.size w HB54.out (by omega) ?_)
            intro W6 hbk hoth hbel _
            have HF55 := Lib.hid (blk_oth HF51.out hoth.out (by omega))
            have HF56 := Lib.hid (blk_oth HF52.out hoth.out (by omega))
            have HF57 := Lib.hid hbk.out
            have HB58 := Lib.hid hbel.out
            clear hbk hoth hbel HB54  HF51 HF52 HF53
            have hc59 : W6.cell? ⟨w2.heap.size, 0, none⟩ = some (.int .i64 a) := by rw [cell_of_row _ _ _ _ _ _ HF56.out]; rfl
            have hc60 : W6.cell? ⟨w2.heap.size, 1, none⟩ = some (.int .i64 0) := by rw [cell_of_row _ _ _ _ _ _ HF56.out]; rfl
            have hc61 : W6.cell? ⟨w2.heap.size, 2, none⟩ = some (.int .i64 0) := by rw [cell_of_row _ _ _ _ _ _ HF56.out]; rfl
            have hc62 : W6.cell? ⟨w2.heap.size, 3, none⟩ = some (.string ⟨#[]⟩) := by rw [cell_of_row _ _ _ _ _ _ HF56.out]; rfl
            have hc63 : W6.cell? ⟨w2.heap.size, 4, none⟩ = some (.string ⟨#[]⟩) := by rw [cell_of_row _ _ _ _ _ _ HF56.out]; rfl
            have hc64 : W6.cell? ⟨w2.heap.size, 5, none⟩ = some (.string ⟨#[]⟩) := by rw [cell_of_row _ _ _ _ _ _ HF56.out]; rfl
            have hc65 : W6.cell? ⟨w2.heap.size, 6, none⟩ = some (.int .i64 0) := by rw [cell_of_row _ _ _ _ _ _ HF56.out]; rfl
            have hc66 : W6.cell? ⟨w2.heap.size, 7, none⟩ = some (.int .i64 0) := by rw [cell_of_row _ _ _ _ _ _ HF56.out]; rfl
            have hc67 : W6.cell? ⟨w2.heap.size + 1, 0, none⟩ = some (.string Y) := by rw [cell_of_row _ _ _ _ _ _ HF57.out]; rfl
            have hc68 : W6.cell? ⟨w2.heap.size + 1, 1, none⟩ = some (.int .i64 (q2 : Int)) := by rw [cell_of_row _ _ _ _ _ _ HF57.out]; rfl
            have hc69 : W6.cell? ⟨w2.heap.size + 1, 2, none⟩ = some (.int .i64 e2) := by rw [cell_of_row _ _ _ _ _ _ HF57.out]; rfl
            have hz70 : W6.frozen? ⟨w2.heap.size, 1, none⟩ = false := frozen_of_row _ _ _ _ _ HF56.out
            have HF71 := Lib.hid (show (W6.setCell ⟨w2.heap.size, 1, none⟩ (.int .i64 b)).heap[w.heap.size]? = some (.cells #[.int .i64 0, .int .i64 0, .int .i64 0, .string ⟨#[]⟩, .string ⟨#[]⟩, .string ⟨#[]⟩, .int .i64 0, .int .i64 0] 42 (0, 0)) by rw [Below.heap_setCell _ _ _ _ (by show w.heap.size ≠ w2.heap.size; omega)]; exact HF55.out)
            have HF72 := Lib.hid (show (W6.setCell ⟨w2.heap.size, 1, none⟩ (.int .i64 b)).heap[w2.heap.size]? = some (.cells #[.int .i64 a, .int .i64 b, .int .i64 0, .string ⟨#[]⟩, .string ⟨#[]⟩, .string ⟨#[]⟩, .int .i64 0, .int .i64 0] 42 (0, 0)) by have h := heap_setCell_at (i := 1) (u := .int .i64 b) HF56.out; exact h)
            have HF73 := Lib.hid (show (W6.setCell ⟨w2.heap.size, 1, none⟩ (.int .i64 b)).heap[w2.heap.size + 1]? = some (.cells #[.string Y, .int .i64 (q2 : Int), .int .i64 e2] 213 (0, 0)) by rw [Below.heap_setCell _ _ _ _ (by show w2.heap.size + 1 ≠ w2.heap.size; omega)]; exact HF57.out)
            have HB74 := Lib.hid (HB58.out.setCell (p := ⟨w2.heap.size, 1, none⟩) (by show w.heap.size ≤ w2.heap.size; omega) (.int .i64 b))
            have hc75 : (W6.setCell ⟨w2.heap.size, 1, none⟩ (.int .i64 b)).cell? ⟨w2.heap.size + 1, 0, none⟩ = some (.string Y) := by rw [cell_of_row _ _ _ _ _ _ HF73.out]; rfl
            have hc76 : (W6.setCell ⟨w2.heap.size, 1, none⟩ (.int .i64 b)).cell? ⟨w2.heap.size + 1, 1, none⟩ = some (.int .i64 (q2 : Int)) := by rw [cell_of_row _ _ _ _ _ _ HF73.out]; rfl
            have hc77 : (W6.setCell ⟨w2.heap.size, 1, none⟩ (.int .i64 b)).cell? ⟨w2.heap.size + 1, 2, none⟩ = some (.int .i64 e2) := by rw [cell_of_row _ _ _ _ _ _ HF73.out]; rfl
            have hc78 : (W6.setCell ⟨w2.heap.size, 1, none⟩ (.int .i64 b)).cell? ⟨w2.heap.size, 0, none⟩ = some (.int .i64 a) := by rw [cell_of_row _ _ _ _ _ _ HF72.out]; rfl
            have hc79 : (W6.setCell ⟨w2.heap.size, 1, none⟩ (.int .i64 b)).cell? ⟨w2.heap.size, 1, none⟩ = some (.int .i64 b) := by rw [cell_of_row _ _ _ _ _ _ HF72.out]; rfl
            have hc80 : (W6.setCell ⟨w2.heap.size, 1, none⟩ (.int .i64 b)).cell? ⟨w2.heap.size, 2, none⟩ = some (.int .i64 0) := by rw [cell_of_row _ _ _ _ _ _ HF72.out]; rfl
            have hc81 : (W6.setCell ⟨w2.heap.size, 1, none⟩ (.int .i64 b)).cell? ⟨w2.heap.size, 3, none⟩ = some (.string ⟨#[]⟩) := by rw [cell_of_row _ _ _ _ _ _ HF72.out]; rfl
            have hc82 : (W6.setCell ⟨w2.heap.size, 1, none⟩ (.int .i64 b)).cell? ⟨w2.heap.size, 4, none⟩ = some (.string ⟨#[]⟩) := by rw [cell_of_row _ _ _ _ _ _ HF72.out]; rfl
            have hc83 : (W6.setCell ⟨w2.heap.size, 1, none⟩ (.int .i64 b)).cell? ⟨w2.heap.size, 5, none⟩ = some (.string ⟨#[]⟩) := by rw [cell_of_row _ _ _ _ _ _ HF72.out]; rfl
            have hc84 : (W6.setCell ⟨w2.heap.size, 1, none⟩ (.int .i64 b)).cell? ⟨w2.heap.size, 6, none⟩ = some (.int .i64 0) := by rw [cell_of_row _ _ _ _ _ _ HF72.out]; rfl
            have hc85 : (W6.setCell ⟨w2.heap.size, 1, none⟩ (.int .i64 b)).cell? ⟨w2.heap.size, 7, none⟩ = some (.int .i64 0) := by rw [cell_of_row _ _ _ _ _ _ HF72.out]; rfl
            go_wp2_with fail
            refine (H3.out (W6.setCell ⟨w2.heap.size, 1, none⟩ (.int .i64 b))).mono ?_
            rintro e w7 ⟨rfl, hb7⟩
            clear hc59 hc60 hc61 hc62 hc63 hc64 hc65 hc66 hc67 hc68 hc69 hz70 hc75 hc76 hc77 hc78 hc79 hc80 hc81 hc82 hc83 hc84 hc85
            have HF86 := Lib.hid (blk_below HF71.out hb7)
            have HF87 := Lib.hid (blk_below HF72.out hb7)
            have HF88 := Lib.hid (blk_below HF73.out hb7)
            have HB89 := Lib.hid (HB74.out.trans (hb7.mono HB74.out.size))
            clear hb7 HB74 HF71 HF72 HF73
            go_wp2_with (first
              | refine wpList_store_rowY rfl 213 (.tmp 8) (.tmp 48) rfl (w2.heap.size + 1) #[.string Y, .int .i64 (q3 : Int), .int .i64 e3] rfl rfl 213 _ HF88.out (info_scE _ _ _) rfl (one_scE _ _ _) w.heap.size w HB89.out (by omega) ?_)
            intro W8 hbk hoth hbel _
            have HF90 := Lib.hid (blk_oth HF86.out hoth.out (by omega))
            have HF91 := Lib.hid (blk_oth HF87.out hoth.out (by omega))
            have HF92 := Lib.hid hbk.out
            have HB93 := Lib.hid hbel.out
            clear hbk hoth hbel HB89  HF86 HF87 HF88
            have hc94 : W8.cell? ⟨w2.heap.size, 0, none⟩ = some (.int .i64 a) := by rw [cell_of_row _ _ _ _ _ _ HF91.out]; rfl
            have hc95 : W8.cell? ⟨w2.heap.size, 1, none⟩ = some (.int .i64 b) := by rw [cell_of_row _ _ _ _ _ _ HF91.out]; rfl
            have hc96 : W8.cell? ⟨w2.heap.size, 2, none⟩ = some (.int .i64 0) := by rw [cell_of_row _ _ _ _ _ _ HF91.out]; rfl
            have hc97 : W8.cell? ⟨w2.heap.size, 3, none⟩ = some (.string ⟨#[]⟩) := by rw [cell_of_row _ _ _ _ _ _ HF91.out]; rfl
            have hc98 : W8.cell? ⟨w2.heap.size, 4, none⟩ = some (.string ⟨#[]⟩) := by rw [cell_of_row _ _ _ _ _ _ HF91.out]; rfl
            have hc99 : W8.cell? ⟨w2.heap.size, 5, none⟩ = some (.string ⟨#[]⟩) := by rw [cell_of_row _ _ _ _ _ _ HF91.out]; rfl
            have hc100 : W8.cell? ⟨w2.heap.size, 6, none⟩ = some (.int .i64 0) := by rw [cell_of_row _ _ _ _ _ _ HF91.out]; rfl
            have hc101 : W8.cell? ⟨w2.heap.size, 7, none⟩ = some (.int .i64 0) := by rw [cell_of_row _ _ _ _ _ _ HF91.out]; rfl
            have hc102 : W8.cell? ⟨w2.heap.size + 1, 0, none⟩ = some (.string Y) := by rw [cell_of_row _ _ _ _ _ _ HF92.out]; rfl
            have hc103 : W8.cell? ⟨w2.heap.size + 1, 1, none⟩ = some (.int .i64 (q3 : Int)) := by rw [cell_of_row _ _ _ _ _ _ HF92.out]; rfl
            have hc104 : W8.cell? ⟨w2.heap.size + 1, 2, none⟩ = some (.int .i64 e3) := by rw [cell_of_row _ _ _ _ _ _ HF92.out]; rfl
            have hz105 : W8.frozen? ⟨w2.heap.size, 2, none⟩ = false := frozen_of_row _ _ _ _ _ HF91.out
            have HF106 := Lib.hid (show (W8.setCell ⟨w2.heap.size, 2, none⟩ (.int .i64 k)).heap[w.heap.size]? = some (.cells #[.int .i64 0, .int .i64 0, .int .i64 0, .string ⟨#[]⟩, .string ⟨#[]⟩, .string ⟨#[]⟩, .int .i64 0, .int .i64 0] 42 (0, 0)) by rw [Below.heap_setCell _ _ _ _ (by show w.heap.size ≠ w2.heap.size; omega)]; exact HF90.out)
            have HF107 := Lib.hid (show (W8.setCell ⟨w2.heap.size, 2, none⟩ (.int .i64 k)).heap[w2.heap.size]? = some (.cells #[.int .i64 a, .int .i64 b, .int .i64 k, .string ⟨#[]⟩, .string ⟨#[]⟩, .string ⟨#[]⟩, .int .i64 0, .int .i64 0] 42 (0, 0)) by have h := heap_setCell_at (i := 2) (u := .int .i64 k) HF91.out; exact h)
            have HF108 := Lib.hid (show (W8.setCell ⟨w2.heap.size, 2, none⟩ (.int .i64 k)).heap[w2.heap.size + 1]? = some (.cells #[.string Y, .int .i64 (q3 : Int), .int .i64 e3] 213 (0, 0)) by rw [Below.heap_setCell _ _ _ _ (by show w2.heap.size + 1 ≠ w2.heap.size; omega)]; exact HF92.out)
            have HB109 := Lib.hid (HB93.out.setCell (p := ⟨w2.heap.size, 2, none⟩) (by show w.heap.size ≤ w2.heap.size; omega) (.int .i64 k))
            have hc110 : (W8.setCell ⟨w2.heap.size, 2, none⟩ (.int .i64 k)).cell? ⟨w2.heap.size + 1, 0, none⟩ = some (.string Y) := by rw [cell_of_row _ _ _ _ _ _ HF108.out]; rfl
            have hc111 : (W8.setCell ⟨w2.heap.size, 2, none⟩ (.int .i64 k)).cell? ⟨w2.heap.size + 1, 1, none⟩ = some (.int .i64 (q3 : Int)) := by rw [cell_of_row _ _ _ _ _ _ HF108.out]; rfl
            have hc112 : (W8.setCell ⟨w2.heap.size, 2, none⟩ (.int .i64 k)).cell? ⟨w2.heap.size + 1, 2, none⟩ = some (.int .i64 e3) := by rw [cell_of_row _ _ _ _ _ _ HF108.out]; rfl
            have hc113 : (W8.setCell ⟨w2.heap.size, 2, none⟩ (.int .i64 k)).cell? ⟨w2.heap.size, 0, none⟩ = some (.int .i64 a) := by rw [cell_of_row _ _ _ _ _ _ HF107.out]; rfl
            have hc114 : (W8.setCell ⟨w2.heap.size, 2, none⟩ (.int .i64 k)).cell? ⟨w2.heap.size, 1, none⟩ = some (.int .i64 b) := by rw [cell_of_row _ _ _ _ _ _ HF107.out]; rfl
            have hc115 : (W8.setCell ⟨w2.heap.size, 2, none⟩ (.int .i64 k)).cell? ⟨w2.heap.size, 2, none⟩ = some (.int .i64 k) := by rw [cell_of_row _ _ _ _ _ _ HF107.out]; rfl
            have hc116 : (W8.setCell ⟨w2.heap.size, 2, none⟩ (.int .i64 k)).cell? ⟨w2.heap.size, 3, none⟩ = some (.string ⟨#[]⟩) := by rw [cell_of_row _ _ _ _ _ _ HF107.out]; rfl
            have hc117 : (W8.setCell ⟨w2.heap.size, 2, none⟩ (.int .i64 k)).cell? ⟨w2.heap.size, 4, none⟩ = some (.string ⟨#[]⟩) := by rw [cell_of_row _ _ _ _ _ _ HF107.out]; rfl
            have hc118 : (W8.setCell ⟨w2.heap.size, 2, none⟩ (.int .i64 k)).cell? ⟨w2.heap.size, 5, none⟩ = some (.string ⟨#[]⟩) := by rw [cell_of_row _ _ _ _ _ _ HF107.out]; rfl
            have hc119 : (W8.setCell ⟨w2.heap.size, 2, none⟩ (.int .i64 k)).cell? ⟨w2.heap.size, 6, none⟩ = some (.int .i64 0) := by rw [cell_of_row _ _ _ _ _ _ HF107.out]; rfl
            have hc120 : (W8.setCell ⟨w2.heap.size, 2, none⟩ (.int .i64 k)).cell? ⟨w2.heap.size, 7, none⟩ = some (.int .i64 0) := by rw [cell_of_row _ _ _ _ _ _ HF107.out]; rfl
            go_wp2_with fail
            refine (H4.out (W8.setCell ⟨w2.heap.size, 2, none⟩ (.int .i64 k))).mono ?_
            rintro e w9 ⟨rfl, hb9⟩
            clear hc94 hc95 hc96 hc97 hc98 hc99 hc100 hc101 hc102 hc103 hc104 hz105 hc110 hc111 hc112 hc113 hc114 hc115 hc116 hc117 hc118 hc119 hc120
            have HF121 := Lib.hid (blk_below HF106.out hb9)
            have HF122 := Lib.hid (blk_below HF107.out hb9)
            have HF123 := Lib.hid (blk_below HF108.out hb9)
            have HB124 := Lib.hid (HB109.out.trans (hb9.mono HB109.out.size))
            clear hb9 HB109 HF106 HF107 HF108
            go_wp2_with (first
              | refine wpList_store_rowY rfl 213 (.tmp 8) (.tmp 54) rfl (w2.heap.size + 1) #[.string Y, .int .i64 (q4 : Int), .int .i64 e4] rfl rfl 213 _ HF123.out (info_scE _ _ _) rfl (one_scE _ _ _) w.heap.size w HB124.out (by omega) ?_)
            intro W10 hbk hoth hbel _
            have HF125 := Lib.hid (blk_oth HF121.out hoth.out (by omega))
            have HF126 := Lib.hid (blk_oth HF122.out hoth.out (by omega))
            have HF127 := Lib.hid hbk.out
            have HB128 := Lib.hid hbel.out
            clear hbk hoth hbel HB124  HF121 HF122 HF123
            have hc129 : W10.cell? ⟨w2.heap.size, 0, none⟩ = some (.int .i64 a) := by rw [cell_of_row _ _ _ _ _ _ HF126.out]; rfl
            have hc130 : W10.cell? ⟨w2.heap.size, 1, none⟩ = some (.int .i64 b) := by rw [cell_of_row _ _ _ _ _ _ HF126.out]; rfl
            have hc131 : W10.cell? ⟨w2.heap.size, 2, none⟩ = some (.int .i64 k) := by rw [cell_of_row _ _ _ _ _ _ HF126.out]; rfl
            have hc132 : W10.cell? ⟨w2.heap.size, 3, none⟩ = some (.string ⟨#[]⟩) := by rw [cell_of_row _ _ _ _ _ _ HF126.out]; rfl
            have hc133 : W10.cell? ⟨w2.heap.size, 4, none⟩ = some (.string ⟨#[]⟩) := by rw [cell_of_row _ _ _ _ _ _ HF126.out]; rfl
            have hc134 : W10.cell? ⟨w2.heap.size, 5, none⟩ = some (.string ⟨#[]⟩) := by rw [cell_of_row _ _ _ _ _ _ HF126.out]; rfl
            have hc135 : W10.cell? ⟨w2.heap.size, 6, none⟩ = some (.int .i64 0) := by rw [cell_of_row _ _ _ _ _ _ HF126.out]; rfl
            have hc136 : W10.cell? ⟨w2.heap.size, 7, none⟩ = some (.int .i64 0) := by rw [cell_of_row _ _ _ _ _ _ HF126.out]; rfl
            have hc137 : W10.cell? ⟨w2.heap.size + 1, 0, none⟩ = some (.string Y) := by rw [cell_of_row _ _ _ _ _ _ HF127.out]; rfl
            have hc138 : W10.cell? ⟨w2.heap.size + 1, 1, none⟩ = some (.int .i64 (q4 : Int)) := by rw [cell_of_row _ _ _ _ _ _ HF127.out]; rfl
            have hc139 : W10.cell? ⟨w2.heap.size + 1, 2, none⟩ = some (.int .i64 e4) := by rw [cell_of_row _ _ _ _ _ _ HF127.out]; rfl
            have hz140 : W10.frozen? ⟨w2.heap.size, 3, none⟩ = false := frozen_of_row _ _ _ _ _ HF126.out
            have HF141 := Lib.hid (show (W10.setCell ⟨w2.heap.size, 3, none⟩ (.string x)).heap[w.heap.size]? = some (.cells #[.int .i64 0, .int .i64 0, .int .i64 0, .string ⟨#[]⟩, .string ⟨#[]⟩, .string ⟨#[]⟩, .int .i64 0, .int .i64 0] 42 (0, 0)) by rw [Below.heap_setCell _ _ _ _ (by show w.heap.size ≠ w2.heap.size; omega)]; exact HF125.out)
            have HF142 := Lib.hid (show (W10.setCell ⟨w2.heap.size, 3, none⟩ (.string x)).heap[w2.heap.size]? = some (.cells #[.int .i64 a, .int .i64 b, .int .i64 k, .string x, .string ⟨#[]⟩, .string ⟨#[]⟩, .int .i64 0, .int .i64 0] 42 (0, 0)) by have h := heap_setCell_at (i := 3) (u := .string x) HF126.out; exact h)
            have HF143 := Lib.hid (show (W10.setCell ⟨w2.heap.size, 3, none⟩ (.string x)).heap[w2.heap.size + 1]? = some (.cells #[.string Y, .int .i64 (q4 : Int), .int .i64 e4] 213 (0, 0)) by rw [Below.heap_setCell _ _ _ _ (by show w2.heap.size + 1 ≠ w2.heap.size; omega)]; exact HF127.out)
            have HB144 := Lib.hid (HB128.out.setCell (p := ⟨w2.heap.size, 3, none⟩) (by show w.heap.size ≤ w2.heap.size; omega) (.string x))
            have hc145 : (W10.setCell ⟨w2.heap.size, 3, none⟩ (.string x)).cell? ⟨w2.heap.size + 1, 0, none⟩ = some (.string Y) := by rw [cell_of_row _ _ _ _ _ _ HF143.out]; rfl
            have hc146 : (W10.setCell ⟨w2.heap.size, 3, none⟩ (.string x)).cell? ⟨w2.heap.size + 1, 1, none⟩ = some (.int .i64 (q4 : Int)) := by rw [cell_of_row _ _ _ _ _ _ HF143.out]; rfl
            have hc147 : (W10.setCell ⟨w2.heap.size, 3, none⟩ (.string x)).cell? ⟨w2.heap.size + 1, 2, none⟩ = some (.int .i64 e4) := by rw [cell_of_row _ _ _ _ _ _ HF143.out]; rfl
            have hc148 : (W10.setCell ⟨w2.heap.size, 3, none⟩ (.string x)).cell? ⟨w2.heap.size, 0, none⟩ = some (.int .i64 a) := by rw [cell_of_row _ _ _ _ _ _ HF142.out]; rfl
            have hc149 : (W10.setCell ⟨w2.heap.size, 3, none⟩ (.string x)).cell? ⟨w2.heap.size, 1, none⟩ = some (.int .i64 b) := by rw [cell_of_row _ _ _ _ _ _ HF142.out]; rfl
            have hc150 : (W10.setCell ⟨w2.heap.size, 3, none⟩ (.string x)).cell? ⟨w2.heap.size, 2, none⟩ = some (.int .i64 k) := by rw [cell_of_row _ _ _ _ _ _ HF142.out]; rfl
            have hc151 : (W10.setCell ⟨w2.heap.size, 3, none⟩ (.string x)).cell? ⟨w2.heap.size, 3, none⟩ = some (.string x) := by rw [cell_of_row _ _ _ _ _ _ HF142.out]; rfl
            have hc152 : (W10.setCell ⟨w2.heap.size, 3, none⟩ (.string x)).cell? ⟨w2.heap.size, 4, none⟩ = some (.string ⟨#[]⟩) := by rw [cell_of_row _ _ _ _ _ _ HF142.out]; rfl
            have hc153 : (W10.setCell ⟨w2.heap.size, 3, none⟩ (.string x)).cell? ⟨w2.heap.size, 5, none⟩ = some (.string ⟨#[]⟩) := by rw [cell_of_row _ _ _ _ _ _ HF142.out]; rfl
            have hc154 : (W10.setCell ⟨w2.heap.size, 3, none⟩ (.string x)).cell? ⟨w2.heap.size, 6, none⟩ = some (.int .i64 0) := by rw [cell_of_row _ _ _ _ _ _ HF142.out]; rfl
            have hc155 : (W10.setCell ⟨w2.heap.size, 3, none⟩ (.string x)).cell? ⟨w2.heap.size, 7, none⟩ = some (.int .i64 0) := by rw [cell_of_row _ _ _ _ _ _ HF142.out]; rfl
            go_wp2_with fail
            refine (H5.out (W10.setCell ⟨w2.heap.size, 3, none⟩ (.string x))).mono ?_
            rintro e w11 ⟨rfl, hb11⟩
            clear hc129 hc130 hc131 hc132 hc133 hc134 hc135 hc136 hc137 hc138 hc139 hz140 hc145 hc146 hc147 hc148 hc149 hc150 hc151 hc152 hc153 hc154 hc155
            have HF156 := Lib.hid (blk_below HF141.out hb11)
            have HF157 := Lib.hid (blk_below HF142.out hb11)
            have HF158 := Lib.hid (blk_below HF143.out hb11)
            have HB159 := Lib.hid (HB144.out.trans (hb11.mono HB144.out.size))
            clear hb11 HB144 HF141 HF142 HF143
            go_wp2_with (first
              | refine wpList_store_rowY rfl 213 (.tmp 8) (.tmp 60) rfl (w2.heap.size + 1) #[.string Y, .int .i64 (q5 : Int), .int .i64 e5] rfl rfl 213 _ HF158.out (info_scE _ _ _) rfl (one_scE _ _ _) w.heap.size w HB159.out (by omega) ?_)
            intro W12 hbk hoth hbel _
            have HF160 := Lib.hid (blk_oth HF156.out hoth.out (by omega))
            have HF161 := Lib.hid (blk_oth HF157.out hoth.out (by omega))
            have HF162 := Lib.hid hbk.out
            have HB163 := Lib.hid hbel.out
            clear hbk hoth hbel HB159  HF156 HF157 HF158
            have hc164 : W12.cell? ⟨w2.heap.size, 0, none⟩ = some (.int .i64 a) := by rw [cell_of_row _ _ _ _ _ _ HF161.out]; rfl
            have hc165 : W12.cell? ⟨w2.heap.size, 1, none⟩ = some (.int .i64 b) := by rw [cell_of_row _ _ _ _ _ _ HF161.out]; rfl
            have hc166 : W12.cell? ⟨w2.heap.size, 2, none⟩ = some (.int .i64 k) := by rw [cell_of_row _ _ _ _ _ _ HF161.out]; rfl
            have hc167 : W12.cell? ⟨w2.heap.size, 3, none⟩ = some (.string x) := by rw [cell_of_row _ _ _ _ _ _ HF161.out]; rfl
            have hc168 : W12.cell? ⟨w2.heap.size, 4, none⟩ = some (.string ⟨#[]⟩) := by rw [cell_of_row _ _ _ _ _ _ HF161.out]; rfl
            have hc169 : W12.cell? ⟨w2.heap.size, 5, none⟩ = some (.string ⟨#[]⟩) := by rw [cell_of_row _ _ _ _ _ _ HF161.out]; rfl
            have hc170 : W12.cell? ⟨w2.heap.size, 6, none⟩ = some (.int .i64 0) := by rw [cell_of_row _ _ _ _ _ _ HF161.out]; rfl
            have hc171 : W12.cell? ⟨w2.heap.size, 7, none⟩ = some (.int .i64 0) := by rw [cell_of_row _ _ _ _ _ _ HF161.out]; rfl
            have hc172 : W12.cell? ⟨w2.heap.size + 1, 0, none⟩ = some (.string Y) := by rw [cell_of_row _ _ _ _ _ _ HF162.out]; rfl
            have hc173 : W12.cell? ⟨w2.heap.size + 1, 1, none⟩ = some (.int .i64 (q5 : Int)) := by rw [cell_of_row _ _ _ _ _ _ HF162.out]; rfl
            have hc174 : W12.cell? ⟨w2.heap.size + 1, 2, none⟩ = some (.int .i64 e5) := by rw [cell_of_row _ _ _ _ _ _ HF162.out]; rfl
            have hz175 : W12.frozen? ⟨w2.heap.size, 4, none⟩ = false := frozen_of_row _ _ _ _ _ HF161.out
            have HF176 := Lib.hid (show (W12.setCell ⟨w2.heap.size, 4, none⟩ (.string o)).heap[w.heap.size]? = some (.cells #[.int .i64 0, .int .i64 0, .int .i64 0, .string ⟨#[]⟩, .string ⟨#[]⟩, .string ⟨#[]⟩, .int .i64 0, .int .i64 0] 42 (0, 0)) by rw [Below.heap_setCell _ _ _ _ (by show w.heap.size ≠ w2.heap.size; omega)]; exact HF160.out)
            have HF177 := Lib.hid (show (W12.setCell ⟨w2.heap.size, 4, none⟩ (.string o)).heap[w2.heap.size]? = some (.cells #[.int .i64 a, .int .i64 b, .int .i64 k, .string x, .string o, .string ⟨#[]⟩, .int .i64 0, .int .i64 0] 42 (0, 0)) by have h := heap_setCell_at (i := 4) (u := .string o) HF161.out; exact h)
            have HF178 := Lib.hid (show (W12.setCell ⟨w2.heap.size, 4, none⟩ (.string o)).heap[w2.heap.size + 1]? = some (.cells #[.string Y, .int .i64 (q5 : Int), .int .i64 e5] 213 (0, 0)) by rw [Below.heap_setCell _ _ _ _ (by show w2.heap.size + 1 ≠ w2.heap.size; omega)]; exact HF162.out)
            have HB179 := Lib.hid (HB163.out.setCell (p := ⟨w2.heap.size, 4, none⟩) (by show w.heap.size ≤ w2.heap.size; omega) (.string o))
            have hc180 : (W12.setCell ⟨w2.heap.size, 4, none⟩ (.string o)).cell? ⟨w2.heap.size + 1, 0, none⟩ = some (.string Y) := by rw [cell_of_row _ _ _ _ _ _ HF178.out]; rfl
            have hc181 : (W12.setCell ⟨w2.heap.size, 4, none⟩ (.string o)).cell? ⟨w2.heap.size + 1, 1, none⟩ = some (.int .i64 (q5 : Int)) := by rw [cell_of_row _ _ _ _ _ _ HF178.out]; rfl
            have hc182 : (W12.setCell ⟨w2.heap.size, 4, none⟩ (.string o)).cell? ⟨w2.heap.size + 1, 2, none⟩ = some (.int .i64 e5) := by rw [cell_of_row _ _ _ _ _ _ HF178.out]; rfl
            have hc183 : (W12.setCell ⟨w2.heap.size, 4, none⟩ (.string o)).cell? ⟨w2.heap.size, 0, none⟩ = some (.int .i64 a) := by rw [cell_of_row _ _ _ _ _ _ HF177.out]; rfl
            have hc184 : (W12.setCell ⟨w2.heap.size, 4, none⟩ (.string o)).cell? ⟨w2.heap.size, 1, none⟩ = some (.int .i64 b) := by rw [cell_of_row _ _ _ _ _ _ HF177.out]; rfl
            have hc185 : (W12.setCell ⟨w2.heap.size, 4, none⟩ (.string o)).cell? ⟨w2.heap.size, 2, none⟩ = some (.int .i64 k) := by rw [cell_of_row _ _ _ _ _ _ HF177.out]; rfl
            have hc186 : (W12.setCell ⟨w2.heap.size, 4, none⟩ (.string o)).cell? ⟨w2.heap.size, 3, none⟩ = some (.string x) := by rw [cell_of_row _ _ _ _ _ _ HF177.out]; rfl
            have hc187 : (W12.setCell ⟨w2.heap.size, 4, none⟩ (.string o)).cell? ⟨w2.heap.size, 4, none⟩ = some (.string o) := by rw [cell_of_row _ _ _ _ _ _ HF177.out]; rfl
            have hc188 : (W12.setCell ⟨w2.heap.size, 4, none⟩ (.string o)).cell? ⟨w2.heap.size, 5, none⟩ = some (.string ⟨#[]⟩) := by rw [cell_of_row _ _ _ _ _ _ HF177.out]; rfl
            have hc189 : (W12.setCell ⟨w2.heap.size, 4, none⟩ (.string o)).cell? ⟨w2.heap.size, 6, none⟩ = some (.int .i64 0) := by rw [cell_of_row _ _ _ _ _ _ HF177.out]; rfl
            have hc190 : (W12.setCell ⟨w2.heap.size, 4, none⟩ (.string o)).cell? ⟨w2.heap.size, 7, none⟩ = some (.int .i64 0) := by rw [cell_of_row _ _ _ _ _ _ HF177.out]; rfl
            go_wp2_with fail
            refine (H6.out (W12.setCell ⟨w2.heap.size, 4, none⟩ (.string o))).mono ?_
            rintro e w13 ⟨rfl, hb13⟩
            clear hc164 hc165 hc166 hc167 hc168 hc169 hc170 hc171 hc172 hc173 hc174 hz175 hc180 hc181 hc182 hc183 hc184 hc185 hc186 hc187 hc188 hc189 hc190
            have HF191 := Lib.hid (blk_below HF176.out hb13)
            have HF192 := Lib.hid (blk_below HF177.out hb13)
            have HF193 := Lib.hid (blk_below HF178.out hb13)
            have HB194 := Lib.hid (HB179.out.trans (hb13.mono HB179.out.size))
            clear hb13 HB179 HF176 HF177 HF178
            go_wp2_with (first
              | refine wpList_store_rowY rfl 213 (.tmp 8) (.tmp 66) rfl (w2.heap.size + 1) #[.string Y, .int .i64 (q6 : Int), .int .i64 e6] rfl rfl 213 _ HF193.out (info_scE _ _ _) rfl (one_scE _ _ _) w.heap.size w HB194.out (by omega) ?_)
            intro W14 hbk hoth hbel _
            have HF195 := Lib.hid (blk_oth HF191.out hoth.out (by omega))
            have HF196 := Lib.hid (blk_oth HF192.out hoth.out (by omega))
            have HF197 := Lib.hid hbk.out
            have HB198 := Lib.hid hbel.out
            clear hbk hoth hbel HB194  HF191 HF192 HF193
            have hc199 : W14.cell? ⟨w2.heap.size, 0, none⟩ = some (.int .i64 a) := by rw [cell_of_row _ _ _ _ _ _ HF196.out]; rfl
            have hc200 : W14.cell? ⟨w2.heap.size, 1, none⟩ = some (.int .i64 b) := by rw [cell_of_row _ _ _ _ _ _ HF196.out]; rfl
            have hc201 : W14.cell? ⟨w2.heap.size, 2, none⟩ = some (.int .i64 k) := by rw [cell_of_row _ _ _ _ _ _ HF196.out]; rfl
            have hc202 : W14.cell? ⟨w2.heap.size, 3, none⟩ = some (.string x) := by rw [cell_of_row _ _ _ _ _ _ HF196.out]; rfl
            have hc203 : W14.cell? ⟨w2.heap.size, 4, none⟩ = some (.string o) := by rw [cell_of_row _ _ _ _ _ _ HF196.out]; rfl
            have hc204 : W14.cell? ⟨w2.heap.size, 5, none⟩ = some (.string ⟨#[]⟩) := by rw [cell_of_row _ _ _ _ _ _ HF196.out]; rfl
            have hc205 : W14.cell? ⟨w2.heap.size, 6, none⟩ = some (.int .i64 0) := by rw [cell_of_row _ _ _ _ _ _ HF196.out]; rfl
            have hc206 : W14.cell? ⟨w2.heap.size, 7, none⟩ = some (.int .i64 0) := by rw [cell_of_row _ _ _ _ _ _ HF196.out]; rfl
            have hc207 : W14.cell? ⟨w2.heap.size + 1, 0, none⟩ = some (.string Y) := by rw [cell_of_row _ _ _ _ _ _ HF197.out]; rfl
            have hc208 : W14.cell? ⟨w2.heap.size + 1, 1, none⟩ = some (.int .i64 (q6 : Int)) := by rw [cell_of_row _ _ _ _ _ _ HF197.out]; rfl
            have hc209 : W14.cell? ⟨w2.heap.size + 1, 2, none⟩ = some (.int .i64 e6) := by rw [cell_of_row _ _ _ _ _ _ HF197.out]; rfl
            have hz210 : W14.frozen? ⟨w2.heap.size, 5, none⟩ = false := frozen_of_row _ _ _ _ _ HF196.out
            have HF211 := Lib.hid (show (W14.setCell ⟨w2.heap.size, 5, none⟩ (.string n)).heap[w.heap.size]? = some (.cells #[.int .i64 0, .int .i64 0, .int .i64 0, .string ⟨#[]⟩, .string ⟨#[]⟩, .string ⟨#[]⟩, .int .i64 0, .int .i64 0] 42 (0, 0)) by rw [Below.heap_setCell _ _ _ _ (by show w.heap.size ≠ w2.heap.size; omega)]; exact HF195.out)
            have HF212 := Lib.hid (show (W14.setCell ⟨w2.heap.size, 5, none⟩ (.string n)).heap[w2.heap.size]? = some (.cells #[.int .i64 a, .int .i64 b, .int .i64 k, .string x, .string o, .string n, .int .i64 0, .int .i64 0] 42 (0, 0)) by have h := heap_setCell_at (i := 5) (u := .string n) HF196.out; exact h)
            have HF213 := Lib.hid (show (W14.setCell ⟨w2.heap.size, 5, none⟩ (.string n)).heap[w2.heap.size + 1]? = some (.cells #[.string Y, .int .i64 (q6 : Int), .int .i64 e6] 213 (0, 0)) by rw [Below.heap_setCell _ _ _ _ (by show w2.heap.size + 1 ≠ w2.heap.size; omega)]; exact HF197.out)
            have HB214 := Lib.hid (HB198.out.setCell (p := ⟨w2.heap.size, 5, none⟩) (by show w.heap.size ≤ w2.heap.size; omega) (.string n))
            have hc215 : (W14.setCell ⟨w2.heap.size, 5, none⟩ (.string n)).cell? ⟨w2.heap.size + 1, 0, none⟩ = some (.string Y) := by rw [cell_of_row _ _ _ _ _ _ HF213.out]; rfl
            have hc216 : (W14.setCell ⟨w2.heap.size, 5, none⟩ (.string n)).cell? ⟨w2.heap.size + 1, 1, none⟩ = some (.int .i64 (q6 : Int)) := by rw [cell_of_row _ _ _ _ _ _ HF213.out]; rfl
            have hc217 : (W14.setCell ⟨w2.heap.size, 5, none⟩ (.string n)).cell? ⟨w2.heap.size + 1, 2, none⟩ = some (.int .i64 e6) := by rw [cell_of_row _ _ _ _ _ _ HF213.out]; rfl
            have hc218 : (W14.setCell ⟨w2.heap.size, 5, none⟩ (.string n)).cell? ⟨w2.heap.size, 0, none⟩ = some (.int .i64 a) := by rw [cell_of_row _ _ _ _ _ _ HF212.out]; rfl
            have hc219 : (W14.setCell ⟨w2.heap.size, 5, none⟩ (.string n)).cell? ⟨w2.heap.size, 1, none⟩ = some (.int .i64 b) := by rw [cell_of_row _ _ _ _ _ _ HF212.out]; rfl
            have hc220 : (W14.setCell ⟨w2.heap.size, 5, none⟩ (.string n)).cell? ⟨w2.heap.size, 2, none⟩ = some (.int .i64 k) := by rw [cell_of_row _ _ _ _ _ _ HF212.out]; rfl
            have hc221 : (W14.setCell ⟨w2.heap.size, 5, none⟩ (.string n)).cell? ⟨w2.heap.size, 3, none⟩ = some (.string x) := by rw [cell_of_row _ _ _ _ _ _ HF212.out]; rfl
            have hc222 : (W14.setCell ⟨w2.heap.size, 5, none⟩ (.string n)).cell? ⟨w2.heap.size, 4, none⟩ = some (.string o) := by rw [cell_of_row _ _ _ _ _ _ HF212.out]; rfl
            have hc223 : (W14.setCell ⟨w2.heap.size, 5, none⟩ (.string n)).cell? ⟨w2.heap.size, 5, none⟩ = some (.string n) := by rw [cell_of_row _ _ _ _ _ _ HF212.out]; rfl
            have hc224 : (W14.setCell ⟨w2.heap.size, 5, none⟩ (.string n)).cell? ⟨w2.heap.size, 6, none⟩ = some (.int .i64 0) := by rw [cell_of_row _ _ _ _ _ _ HF212.out]; rfl
            have hc225 : (W14.setCell ⟨w2.heap.size, 5, none⟩ (.string n)).cell? ⟨w2.heap.size, 7, none⟩ = some (.int .i64 0) := by rw [cell_of_row _ _ _ _ _ _ HF212.out]; rfl
            go_wp2_with fail
            refine (H7.out (W14.setCell ⟨w2.heap.size, 5, none⟩ (.string n))).mono ?_
            rintro e w15 ⟨rfl, hb15⟩
            clear hc199 hc200 hc201 hc202 hc203 hc204 hc205 hc206 hc207 hc208 hc209 hz210 hc215 hc216 hc217 hc218 hc219 hc220 hc221 hc222 hc223 hc224 hc225
            have HF226 := Lib.hid (blk_below HF211.out hb15)
            have HF227 := Lib.hid (blk_below HF212.out hb15)
            have HF228 := Lib.hid (blk_below HF213.out hb15)
            have HB229 := Lib.hid (HB214.out.trans (hb15.mono HB214.out.size))
            clear hb15 HB214 HF211 HF212 HF213
            go_wp2_with (first
              | refine wpList_store_rowY rfl 213 (.tmp 8) (.tmp 72) rfl (w2.heap.size + 1) #[.string Y, .int .i64 (q7 : Int), .int .i64 e7] rfl rfl 213 _ HF228.out (info_scE _ _ _) rfl (one_scE _ _ _) w.heap.size w HB229.out (by omega) ?_)
            intro W16 hbk hoth hbel _
            have HF230 := Lib.hid (blk_oth HF226.out hoth.out (by omega))
            have HF231 := Lib.hid (blk_oth HF227.out hoth.out (by omega))
            have HF232 := Lib.hid hbk.out
            have HB233 := Lib.hid hbel.out
            clear hbk hoth hbel HB229  HF226 HF227 HF228
            have hc234 : W16.cell? ⟨w2.heap.size, 0, none⟩ = some (.int .i64 a) := by rw [cell_of_row _ _ _ _ _ _ HF231.out]; rfl
            have hc235 : W16.cell? ⟨w2.heap.size, 1, none⟩ = some (.int .i64 b) := by rw [cell_of_row _ _ _ _ _ _ HF231.out]; rfl
            have hc236 : W16.cell? ⟨w2.heap.size, 2, none⟩ = some (.int .i64 k) := by rw [cell_of_row _ _ _ _ _ _ HF231.out]; rfl
            have hc237 : W16.cell? ⟨w2.heap.size, 3, none⟩ = some (.string x) := by rw [cell_of_row _ _ _ _ _ _ HF231.out]; rfl
            have hc238 : W16.cell? ⟨w2.heap.size, 4, none⟩ = some (.string o) := by rw [cell_of_row _ _ _ _ _ _ HF231.out]; rfl
            have hc239 : W16.cell? ⟨w2.heap.size, 5, none⟩ = some (.string n) := by rw [cell_of_row _ _ _ _ _ _ HF231.out]; rfl
            have hc240 : W16.cell? ⟨w2.heap.size, 6, none⟩ = some (.int .i64 0) := by rw [cell_of_row _ _ _ _ _ _ HF231.out]; rfl
            have hc241 : W16.cell? ⟨w2.heap.size, 7, none⟩ = some (.int .i64 0) := by rw [cell_of_row _ _ _ _ _ _ HF231.out]; rfl
            have hc242 : W16.cell? ⟨w2.heap.size + 1, 0, none⟩ = some (.string Y) := by rw [cell_of_row _ _ _ _ _ _ HF232.out]; rfl
            have hc243 : W16.cell? ⟨w2.heap.size + 1, 1, none⟩ = some (.int .i64 (q7 : Int)) := by rw [cell_of_row _ _ _ _ _ _ HF232.out]; rfl
            have hc244 : W16.cell? ⟨w2.heap.size + 1, 2, none⟩ = some (.int .i64 e7) := by rw [cell_of_row _ _ _ _ _ _ HF232.out]; rfl
            have hz245 : W16.frozen? ⟨w2.heap.size, 6, none⟩ = false := frozen_of_row _ _ _ _ _ HF231.out
            have HF246 := Lib.hid (show (W16.setCell ⟨w2.heap.size, 6, none⟩ (.int .i64 t)).heap[w.heap.size]? = some (.cells #[.int .i64 0, .int .i64 0, .int .i64 0, .string ⟨#[]⟩, .string ⟨#[]⟩, .string ⟨#[]⟩, .int .i64 0, .int .i64 0] 42 (0, 0)) by rw [Below.heap_setCell _ _ _ _ (by show w.heap.size ≠ w2.heap.size; omega)]; exact HF230.out)
            have HF247 := Lib.hid (show (W16.setCell ⟨w2.heap.size, 6, none⟩ (.int .i64 t)).heap[w2.heap.size]? = some (.cells #[.int .i64 a, .int .i64 b, .int .i64 k, .string x, .string o, .string n, .int .i64 t, .int .i64 0] 42 (0, 0)) by have h := heap_setCell_at (i := 6) (u := .int .i64 t) HF231.out; exact h)
            have HF248 := Lib.hid (show (W16.setCell ⟨w2.heap.size, 6, none⟩ (.int .i64 t)).heap[w2.heap.size + 1]? = some (.cells #[.string Y, .int .i64 (q7 : Int), .int .i64 e7] 213 (0, 0)) by rw [Below.heap_setCell _ _ _ _ (by show w2.heap.size + 1 ≠ w2.heap.size; omega)]; exact HF232.out)
            have HB249 := Lib.hid (HB233.out.setCell (p := ⟨w2.heap.size, 6, none⟩) (by show w.heap.size ≤ w2.heap.size; omega) (.int .i64 t))
            have hc250 : (W16.setCell ⟨w2.heap.size, 6, none⟩ (.int .i64 t)).cell? ⟨w2.heap.size + 1, 0, none⟩ = some (.string Y) := by rw [cell_of_row _ _ _ _ _ _ HF248.out]; rfl
            have hc251 : (W16.setCell ⟨w2.heap.size, 6, none⟩ (.int .i64 t)).cell? ⟨w2.heap.size + 1, 1, none⟩ = some (.int .i64 (q7 : Int)) := by rw [cell_of_row _ _ _ _ _ _ HF248.out]; rfl
            have hc252 : (W16.setCell ⟨w2.heap.size, 6, none⟩ (.int .i64 t)).cell? ⟨w2.heap.size + 1, 2, none⟩ = some (.int .i64 e7) := by rw [cell_of_row _ _ _ _ _ _ HF248.out]; rfl
            have hc253 : (W16.setCell ⟨w2.heap.size, 6, none⟩ (.int .i64 t)).cell? ⟨w2.heap.size, 0, none⟩ = some (.int .i64 a) := by rw [cell_of_row _ _ _ _ _ _ HF247.out]; rfl
            have hc254 : (W16.setCell ⟨w2.heap.size, 6, none⟩ (.int .i64 t)).cell? ⟨w2.heap.size, 1, none⟩ = some (.int .i64 b) := by rw [cell_of_row _ _ _ _ _ _ HF247.out]; rfl
            have hc255 : (W16.setCell ⟨w2.heap.size, 6, none⟩ (.int .i64 t)).cell? ⟨w2.heap.size, 2, none⟩ = some (.int .i64 k) := by rw [cell_of_row _ _ _ _ _ _ HF247.out]; rfl
            have hc256 : (W16.setCell ⟨w2.heap.size, 6, none⟩ (.int .i64 t)).cell? ⟨w2.heap.size, 3, none⟩ = some (.string x) := by rw [cell_of_row _ _ _ _ _ _ HF247.out]; rfl
            have hc257 : (W16.setCell ⟨w2.heap.size, 6, none⟩ (.int .i64 t)).cell? ⟨w2.heap.size, 4, none⟩ = some (.string o) := by rw [cell_of_row _ _ _ _ _ _ HF247.out]; rfl
            have hc258 : (W16.setCell ⟨w2.heap.size, 6, none⟩ (.int .i64 t)).cell? ⟨w2.heap.size, 5, none⟩ = some (.string n) := by rw [cell_of_row _ _ _ _ _ _ HF247.out]; rfl
            have hc259 : (W16.setCell ⟨w2.heap.size, 6, none⟩ (.int .i64 t)).cell? ⟨w2.heap.size, 6, none⟩ = some (.int .i64 t) := by rw [cell_of_row _ _ _ _ _ _ HF247.out]; rfl
            have hc260 : (W16.setCell ⟨w2.heap.size, 6, none⟩ (.int .i64 t)).cell? ⟨w2.heap.size, 7, none⟩ = some (.int .i64 0) := by rw [cell_of_row _ _ _ _ _ _ HF247.out]; rfl
            go_wp2_with fail
            refine (H8.out (W16.setCell ⟨w2.heap.size, 6, none⟩ (.int .i64 t))).mono ?_
            rintro e w17 ⟨rfl, hb17⟩
            clear hc234 hc235 hc236 hc237 hc238 hc239 hc240 hc241 hc242 hc243 hc244 hz245 hc250 hc251 hc252 hc253 hc254 hc255 hc256 hc257 hc258 hc259 hc260
            have HF261 := Lib.hid (blk_below HF246.out hb17)
            have HF262 := Lib.hid (blk_below HF247.out hb17)
            have HF263 := Lib.hid (blk_below HF248.out hb17)
            have HB264 := Lib.hid (HB249.out.trans (hb17.mono HB249.out.size))
            clear hb17 HB249 HF246 HF247 HF248
            go_wp2_with (first
              | refine wpList_store_rowY rfl 213 (.tmp 8) (.tmp 78) rfl (w2.heap.size + 1) #[.string Y, .int .i64 (q8 : Int), .int .i64 0] rfl rfl 213 _ HF263.out (info_scE _ _ _) rfl (one_scE _ _ _) w.heap.size w HB264.out (by omega) ?_)
            intro W18 hbk hoth hbel _
            have HF265 := Lib.hid (blk_oth HF261.out hoth.out (by omega))
            have HF266 := Lib.hid (blk_oth HF262.out hoth.out (by omega))
            have HF267 := Lib.hid hbk.out
            have HB268 := Lib.hid hbel.out
            clear hbk hoth hbel HB264  HF261 HF262 HF263
            have hc269 : W18.cell? ⟨w2.heap.size, 0, none⟩ = some (.int .i64 a) := by rw [cell_of_row _ _ _ _ _ _ HF266.out]; rfl
            have hc270 : W18.cell? ⟨w2.heap.size, 1, none⟩ = some (.int .i64 b) := by rw [cell_of_row _ _ _ _ _ _ HF266.out]; rfl
            have hc271 : W18.cell? ⟨w2.heap.size, 2, none⟩ = some (.int .i64 k) := by rw [cell_of_row _ _ _ _ _ _ HF266.out]; rfl
            have hc272 : W18.cell? ⟨w2.heap.size, 3, none⟩ = some (.string x) := by rw [cell_of_row _ _ _ _ _ _ HF266.out]; rfl
            have hc273 : W18.cell? ⟨w2.heap.size, 4, none⟩ = some (.string o) := by rw [cell_of_row _ _ _ _ _ _ HF266.out]; rfl
            have hc274 : W18.cell? ⟨w2.heap.size, 5, none⟩ = some (.string n) := by rw [cell_of_row _ _ _ _ _ _ HF266.out]; rfl
            have hc275 : W18.cell? ⟨w2.heap.size, 6, none⟩ = some (.int .i64 t) := by rw [cell_of_row _ _ _ _ _ _ HF266.out]; rfl
            have hc276 : W18.cell? ⟨w2.heap.size, 7, none⟩ = some (.int .i64 0) := by rw [cell_of_row _ _ _ _ _ _ HF266.out]; rfl
            have hc277 : W18.cell? ⟨w2.heap.size + 1, 0, none⟩ = some (.string Y) := by rw [cell_of_row _ _ _ _ _ _ HF267.out]; rfl
            have hc278 : W18.cell? ⟨w2.heap.size + 1, 1, none⟩ = some (.int .i64 (q8 : Int)) := by rw [cell_of_row _ _ _ _ _ _ HF267.out]; rfl
            have hc279 : W18.cell? ⟨w2.heap.size + 1, 2, none⟩ = some (.int .i64 0) := by rw [cell_of_row _ _ _ _ _ _ HF267.out]; rfl
            have hz280 : W18.frozen? ⟨w2.heap.size, 7, none⟩ = false := frozen_of_row _ _ _ _ _ HF266.out
            have HF281 := Lib.hid (show (W18.setCell ⟨w2.heap.size, 7, none⟩ (.int .i64 u)).heap[w.heap.size]? = some (.cells #[.int .i64 0, .int .i64 0, .int .i64 0, .string ⟨#[]⟩, .string ⟨#[]⟩, .string ⟨#[]⟩, .int .i64 0, .int .i64 0] 42 (0, 0)) by rw [Below.heap_setCell _ _ _ _ (by show w.heap.size ≠ w2.heap.size; omega)]; exact HF265.out)
            have HF282 := Lib.hid (show (W18.setCell ⟨w2.heap.size, 7, none⟩ (.int .i64 u)).heap[w2.heap.size]? = some (.cells #[.int .i64 a, .int .i64 b, .int .i64 k, .string x, .string o, .string n, .int .i64 t, .int .i64 u] 42 (0, 0)) by have h := heap_setCell_at (i := 7) (u := .int .i64 u) HF266.out; exact h)
            have HF283 := Lib.hid (show (W18.setCell ⟨w2.heap.size, 7, none⟩ (.int .i64 u)).heap[w2.heap.size + 1]? = some (.cells #[.string Y, .int .i64 (q8 : Int), .int .i64 0] 213 (0, 0)) by rw [Below.heap_setCell _ _ _ _ (by show w2.heap.size + 1 ≠ w2.heap.size; omega)]; exact HF267.out)
            have HB284 := Lib.hid (HB268.out.setCell (p := ⟨w2.heap.size, 7, none⟩) (by show w.heap.size ≤ w2.heap.size; omega) (.int .i64 u))
            have hc285 : (W18.setCell ⟨w2.heap.size, 7, none⟩ (.int .i64 u)).cell? ⟨w2.heap.size + 1, 0, none⟩ = some (.string Y) := by rw [cell_of_row _ _ _ _ _ _ HF283.out]; rfl
            have hc286 : (W18.setCell ⟨w2.heap.size, 7, none⟩ (.int .i64 u)).cell? ⟨w2.heap.size + 1, 1, none⟩ = some (.int .i64 (q8 : Int)) := by rw [cell_of_row _ _ _ _ _ _ HF283.out]; rfl
            have hc287 : (W18.setCell ⟨w2.heap.size, 7, none⟩ (.int .i64 u)).cell? ⟨w2.heap.size + 1, 2, none⟩ = some (.int .i64 0) := by rw [cell_of_row _ _ _ _ _ _ HF283.out]; rfl
            have hc288 : (W18.setCell ⟨w2.heap.size, 7, none⟩ (.int .i64 u)).cell? ⟨w2.heap.size, 0, none⟩ = some (.int .i64 a) := by rw [cell_of_row _ _ _ _ _ _ HF282.out]; rfl
            have hc289 : (W18.setCell ⟨w2.heap.size, 7, none⟩ (.int .i64 u)).cell? ⟨w2.heap.size, 1, none⟩ = some (.int .i64 b) := by rw [cell_of_row _ _ _ _ _ _ HF282.out]; rfl
            have hc290 : (W18.setCell ⟨w2.heap.size, 7, none⟩ (.int .i64 u)).cell? ⟨w2.heap.size, 2, none⟩ = some (.int .i64 k) := by rw [cell_of_row _ _ _ _ _ _ HF282.out]; rfl
            have hc291 : (W18.setCell ⟨w2.heap.size, 7, none⟩ (.int .i64 u)).cell? ⟨w2.heap.size, 3, none⟩ = some (.string x) := by rw [cell_of_row _ _ _ _ _ _ HF282.out]; rfl
            have hc292 : (W18.setCell ⟨w2.heap.size, 7, none⟩ (.int .i64 u)).cell? ⟨w2.heap.size, 4, none⟩ = some (.string o) := by rw [cell_of_row _ _ _ _ _ _ HF282.out]; rfl
            have hc293 : (W18.setCell ⟨w2.heap.size, 7, none⟩ (.int .i64 u)).cell? ⟨w2.heap.size, 5, none⟩ = some (.string n) := by rw [cell_of_row _ _ _ _ _ _ HF282.out]; rfl
            have hc294 : (W18.setCell ⟨w2.heap.size, 7, none⟩ (.int .i64 u)).cell? ⟨w2.heap.size, 6, none⟩ = some (.int .i64 t) := by rw [cell_of_row _ _ _ _ _ _ HF282.out]; rfl
            have hc295 : (W18.setCell ⟨w2.heap.size, 7, none⟩ (.int .i64 u)).cell? ⟨w2.heap.size, 7, none⟩ = some (.int .i64 u) := by rw [cell_of_row _ _ _ _ _ _ HF282.out]; rfl
            go_wp2_with fail
            refine (HIS.out (W18.setCell ⟨w2.heap.size, 7, none⟩ (.int .i64 u))).mono ?_
            rintro e w19 ⟨rfl, hb19⟩
            clear hc269 hc270 hc271 hc272 hc273 hc274 hc275 hc276 hc277 hc278 hc279 hz280 hc285 hc286 hc287 hc288 hc289 hc290 hc291 hc292 hc293 hc294 hc295
            have HF296 := Lib.hid (blk_below HF281.out hb19)
            have HF297 := Lib.hid (blk_below HF282.out hb19)
            have HF298 := Lib.hid (blk_below HF283.out hb19)
            have HB299 := Lib.hid (HB284.out.trans (hb19.mono HB284.out.size))
            clear hb19 HB284 HF281 HF282 HF283
            have hc300 : w19.cell? ⟨w2.heap.size, 0, none⟩ = some (.int .i64 a) := by rw [cell_of_row _ _ _ _ _ _ HF297.out]; rfl
            have hc301 : w19.cell? ⟨w2.heap.size, 1, none⟩ = some (.int .i64 b) := by rw [cell_of_row _ _ _ _ _ _ HF297.out]; rfl
            have hc302 : w19.cell? ⟨w2.heap.size, 2, none⟩ = some (.int .i64 k) := by rw [cell_of_row _ _ _ _ _ _ HF297.out]; rfl
            have hc303 : w19.cell? ⟨w2.heap.size, 3, none⟩ = some (.string x) := by rw [cell_of_row _ _ _ _ _ _ HF297.out]; rfl
            have hc304 : w19.cell? ⟨w2.heap.size, 4, none⟩ = some (.string o) := by rw [cell_of_row _ _ _ _ _ _ HF297.out]; rfl
            have hc305 : w19.cell? ⟨w2.heap.size, 5, none⟩ = some (.string n) := by rw [cell_of_row _ _ _ _ _ _ HF297.out]; rfl
            have hc306 : w19.cell? ⟨w2.heap.size, 6, none⟩ = some (.int .i64 t) := by rw [cell_of_row _ _ _ _ _ _ HF297.out]; rfl
            have hc307 : w19.cell? ⟨w2.heap.size, 7, none⟩ = some (.int .i64 u) := by rw [cell_of_row _ _ _ _ _ _ HF297.out]; rfl
            have hc308 : w19.cell? ⟨w2.heap.size + 1, 0, none⟩ = some (.string Y) := by rw [cell_of_row _ _ _ _ _ _ HF298.out]; rfl
            have hc309 : w19.cell? ⟨w2.heap.size + 1, 1, none⟩ = some (.int .i64 (q8 : Int)) := by rw [cell_of_row _ _ _ _ _ _ HF298.out]; rfl
            have hc310 : w19.cell? ⟨w2.heap.size + 1, 2, none⟩ = some (.int .i64 0) := by rw [cell_of_row _ _ _ _ _ _ HF298.out]; rfl
            go_wp2_with fail
            refine (HPU.out w19).mono ?_
            rintro e w20 ⟨rfl, hb20⟩
            clear hc300 hc301 hc302 hc303 hc304 hc305 hc306 hc307 hc308 hc309 hc310
            have HF311 := Lib.hid (blk_below HF296.out hb20)
            have HF312 := Lib.hid (blk_below HF297.out hb20)
            have HF313 := Lib.hid (blk_below HF298.out hb20)
            have HB314 := Lib.hid (HB299.out.trans (hb20.mono HB299.out.size))
            clear hb20 HB299 HF296 HF297 HF298
            go_wp2_with (first
              | refine wpList_store_rowY rfl 42 (.tmp 2) (.tmp 95) rfl (w.heap.size) #[.int .i64 0, .int .i64 0, .int .i64 0, .string ⟨#[]⟩, .string ⟨#[]⟩, .string ⟨#[]⟩, .int .i64 0, .int .i64 0] rfl rfl 42 _ HF311.out (info_rec _ _ _ _ _ _ _ _) rfl (one_rec _ _ _ _ _ _ _ _) w.heap.size w HB314.out (by omega) ?_)
            intro W21 hbk hoth hbel _
            have HF315 := Lib.hid hbk.out
            have HF316 := Lib.hid (blk_oth HF312.out hoth.out (by omega))
            have HF317 := Lib.hid (blk_oth HF313.out hoth.out (by omega))
            have HB318 := Lib.hid hbel.out
            clear hbk hoth hbel HB314  HF311 HF312 HF313
            go_wp2_with fail
            refine bodyPost_ret (results_ctY rfl _ _ (w.heap.size) #[.int .i64 0, .int .i64 0, .int .i64 0, .string ⟨#[]⟩, .string ⟨#[]⟩, .string ⟨#[]⟩, .int .i64 0, .int .i64 0] rfl (run_loadVar_row _ (w.heap.size) 42 42 _ (0, 0) _ HF315.out Tryz.underlying42 rfl (info_rec _ _ _ _ _ _ _ _))) rfl ?_
            exact ⟨rfl, HB318.out⟩
        · have hn1 : (e8 == 0) = false := by rw [beq_eq_false_iff_ne]; exact he
          have hn2 : (e8 != 0) = true := by rw [bne, hn1]; rfl
          clear he hrec HIS HPU
          have HB1 := Lib.hid (Below.refl w.heap.size w)
          go_enter Tryz.func88, Tryz.ntmps88
          go_wp2_with fail
          have HF2 := Lib.hid (blk_new w (.cells #[.int .i64 0, .int .i64 0, .int .i64 0, .string ⟨#[]⟩, .string ⟨#[]⟩, .string ⟨#[]⟩, .int .i64 0, .int .i64 0] 42 (0, 0)))
          have HB3 := Lib.hid (HB1.out.alloc HB1.out.size (.cells #[.int .i64 0, .int .i64 0, .int .i64 0, .string ⟨#[]⟩, .string ⟨#[]⟩, .string ⟨#[]⟩, .int .i64 0, .int .i64 0] 42 (0, 0)))
          clear HB1
          refine (HBR.out (w.alloc (.cells #[.int .i64 0, .int .i64 0, .int .i64 0, .string ⟨#[]⟩, .string ⟨#[]⟩, .string ⟨#[]⟩, .int .i64 0, .int .i64 0] 42 (0, 0)))).mono ?_
          rintro e w1 ⟨rfl, hb1⟩
          have HF4 := Lib.hid (blk_below HF2.out hb1)
          have HB5 := Lib.hid (HB3.out.trans (hb1.mono HB3.out.size))
          clear hb1 HB3 HF2
          go_wp2_with fail
          refine (HOP.out w1).mono ?_
          rintro e w2 ⟨rfl, hb2⟩
          have HF6 := Lib.hid (blk_below HF4.out hb2)
          have HB7 := Lib.hid (HB5.out.trans (hb2.mono HB5.out.size))
          clear hb2 HB5 HF4
          have hk8 : w.heap.size < w2.heap.size := lt_of_block HF6.out
          have HF9 := Lib.hid (blk_alloc HF6.out (.cells #[.int .i64 0, .int .i64 0, .int .i64 0, .string ⟨#[]⟩, .string ⟨#[]⟩, .string ⟨#[]⟩, .int .i64 0, .int .i64 0] 42 (0, 0)))
          have HF10 := Lib.hid (blk_new w2 (.cells #[.int .i64 0, .int .i64 0, .int .i64 0, .string ⟨#[]⟩, .string ⟨#[]⟩, .string ⟨#[]⟩, .int .i64 0, .int .i64 0] 42 (0, 0)))
          have HB11 := Lib.hid (HB7.out.alloc HB7.out.size (.cells #[.int .i64 0, .int .i64 0, .int .i64 0, .string ⟨#[]⟩, .string ⟨#[]⟩, .string ⟨#[]⟩, .int .i64 0, .int .i64 0] 42 (0, 0)))
          clear HB7
          have HF12 := Lib.hid (blk_alloc HF9.out (.cells #[.string Y, .int .i64 0, .int .i64 0] 213 (0, 0)))
          clear HF9
          have HF13 := Lib.hid (blk_alloc HF10.out (.cells #[.string Y, .int .i64 0, .int .i64 0] 213 (0, 0)))
          clear HF10
          have HF14 : Hid (((w2.alloc (.cells #[.int .i64 0, .int .i64 0, .int .i64 0, .string ⟨#[]⟩, .string ⟨#[]⟩, .string ⟨#[]⟩, .int .i64 0, .int .i64 0] 42 (0, 0))).alloc (.cells #[.string Y, .int .i64 0, .int .i64 0] 213 (0, 0))).heap[w2.heap.size + 1]? = some (.cells #[.string Y, .int .i64 0, .int .i64 0] 213 (0, 0))) := Lib.hid (blk_newN (W := (w2.alloc (.cells #[.int .i64 0, .int .i64 0, .int .i64 0, .string ⟨#[]⟩, .string ⟨#[]⟩, .string ⟨#[]⟩, .int .i64 0, .int .i64 0] 42 (0, 0)))) (o := (.cells #[.string Y, .int .i64 0, .int .i64 0] 213 (0, 0))) (by simp))
          have HB15 := Lib.hid (HB11.out.alloc (by have := HB11.out.size; simp at this ⊢ <;> omega) (.cells #[.string Y, .int .i64 0, .int .i64 0] 213 (0, 0)))
          clear HB11
          go_wp2_with fail
          refine (H1.out ((w2.alloc (.cells #[.int .i64 0, .int .i64 0, .int .i64 0, .string ⟨#[]⟩, .string ⟨#[]⟩, .string ⟨#[]⟩, .int .i64 0, .int .i64 0] 42 (0, 0))).alloc (.cells #[.string Y, .int .i64 0, .int .i64 0] 213 (0, 0)))).mono ?_
          rintro e w3 ⟨rfl, hb3⟩
          have HF16 := Lib.hid (blk_below HF12.out hb3)
          have HF17 := Lib.hid (blk_below HF13.out hb3)
          have HF18 := Lib.hid (blk_below HF14.out hb3)
          have HB19 := Lib.hid (HB15.out.trans (hb3.mono HB15.out.size))
          clear hb3 HB15 HF12 HF6 HF13 HF14
          go_wp2_with (first
            | refine wpList_store_rowY rfl 213 (.tmp 8) (.tmp 36) rfl (w2.heap.size + 1) #[.string Y, .int .i64 (q1 : Int), .int .i64 e1] rfl rfl 213 _ HF18.out (info_scE _ _ _) rfl (one_scE _ _ _) w.heap.size w HB19.out (by omega) ?_)
          intro W4 hbk hoth hbel _
          have HF20 := Lib.hid (blk_oth HF16.out hoth.out (by omega))
          have HF21 := Lib.hid (blk_oth HF17.out hoth.out (by omega))
          have HF22 := Lib.hid hbk.out
          have HB23 := Lib.hid hbel.out
          clear hbk hoth hbel HB19  HF16 HF17 HF18
          have hc24 : W4.cell? ⟨w2.heap.size, 0, none⟩ = some (.int .i64 0) := by rw [cell_of_row _ _ _ _ _ _ HF21.out]; rfl
          have hc25 : W4.cell? ⟨w2.heap.size, 1, none⟩ = some (.int .i64 0) := by rw [cell_of_row _ _ _ _ _ _ HF21.out]; rfl
          have hc26 : W4.cell? ⟨w2.heap.size, 2, none⟩ = some (.int .i64 0) := by rw [cell_of_row _ _ _ _ _ _ HF21.out]; rfl
          have hc27 : W4.cell? ⟨w2.heap.size, 3, none⟩ = some (.string ⟨#[]⟩) := by rw [cell_of_row _ _ _ _ _ _ HF21.out]; rfl
          have hc28 : W4.cell? ⟨w2.heap.size, 4, none⟩ = some (.string ⟨#[]⟩) := by rw [cell_of_row _ _ _ _ _ _ HF21.out]; rfl
          have hc29 : W4.cell? ⟨w2.heap.size, 5, none⟩ = some (.string ⟨#[]⟩) := by rw [cell_of_row _ _ _ _ _ _ HF21.out]; rfl
          have hc30 : W4.cell? ⟨w2.heap.size, 6, none⟩ = some (.int .i64 0) := by rw [cell_of_row _ _ _ _ _ _ HF21.out]; rfl
          have hc31 : W4.cell? ⟨w2.heap.size, 7, none⟩ = some (.int .i64 0) := by rw [cell_of_row _ _ _ _ _ _ HF21.out]; rfl
          have hc32 : W4.cell? ⟨w2.heap.size + 1, 0, none⟩ = some (.string Y) := by rw [cell_of_row _ _ _ _ _ _ HF22.out]; rfl
          have hc33 : W4.cell? ⟨w2.heap.size + 1, 1, none⟩ = some (.int .i64 (q1 : Int)) := by rw [cell_of_row _ _ _ _ _ _ HF22.out]; rfl
          have hc34 : W4.cell? ⟨w2.heap.size + 1, 2, none⟩ = some (.int .i64 e1) := by rw [cell_of_row _ _ _ _ _ _ HF22.out]; rfl
          have hz35 : W4.frozen? ⟨w2.heap.size, 0, none⟩ = false := frozen_of_row _ _ _ _ _ HF21.out
          have HF36 := Lib.hid (show (W4.setCell ⟨w2.heap.size, 0, none⟩ (.int .i64 a)).heap[w.heap.size]? = some (.cells #[.int .i64 0, .int .i64 0, .int .i64 0, .string ⟨#[]⟩, .string ⟨#[]⟩, .string ⟨#[]⟩, .int .i64 0, .int .i64 0] 42 (0, 0)) by rw [Below.heap_setCell _ _ _ _ (by show w.heap.size ≠ w2.heap.size; omega)]; exact HF20.out)
          have HF37 := Lib.hid (show (W4.setCell ⟨w2.heap.size, 0, none⟩ (.int .i64 a)).heap[w2.heap.size]? = some (.cells #[.int .i64 a, .int .i64 0, .int .i64 0, .string ⟨#[]⟩, .string ⟨#[]⟩, .string ⟨#[]⟩, .int .i64 0, .int .i64 0] 42 (0, 0)) by have h := heap_setCell_at (i := 0) (u := .int .i64 a) HF21.out; exact h)
          have HF38 := Lib.hid (show (W4.setCell ⟨w2.heap.size, 0, none⟩ (.int .i64 a)).heap[w2.heap.size + 1]? = some (.cells #[.string Y, .int .i64 (q1 : Int), .int .i64 e1] 213 (0, 0)) by rw [Below.heap_setCell _ _ _ _ (by show w2.heap.size + 1 ≠ w2.heap.size; omega)]; exact HF22.out)
          have HB39 := Lib.hid (HB23.out.setCell (p := ⟨w2.heap.size, 0, none⟩) (by show w.heap.size ≤ w2.heap.size; omega) (.int .i64 a))
          have hc40 : (W4.setCell ⟨w2.heap.size, 0, none⟩ (.int .i64 a)).cell? ⟨w2.heap.size + 1, 0, none⟩ = some (.string Y) := by rw [cell_of_row _ _ _ _ _ _ HF38.out]; rfl
          have hc41 : (W4.setCell ⟨w2.heap.size, 0, none⟩ (.int .i64 a)).cell? ⟨w2.heap.size + 1, 1, none⟩ = some (.int .i64 (q1 : Int)) := by rw [cell_of_row _ _ _ _ _ _ HF38.out]; rfl
          have hc42 : (W4.setCell ⟨w2.heap.size, 0, none⟩ (.int .i64 a)).cell? ⟨w2.heap.size + 1, 2, none⟩ = some (.int .i64 e1) := by rw [cell_of_row _ _ _ _ _ _ HF38.out]; rfl
          have hc43 : (W4.setCell ⟨w2.heap.size, 0, none⟩ (.int .i64 a)).cell? ⟨w2.heap.size, 0, none⟩ = some (.int .i64 a) := by rw [cell_of_row _ _ _ _ _ _ HF37.out]; rfl
          have hc44 : (W4.setCell ⟨w2.heap.size, 0, none⟩ (.int .i64 a)).cell? ⟨w2.heap.size, 1, none⟩ = some (.int .i64 0) := by rw [cell_of_row _ _ _ _ _ _ HF37.out]; rfl
          have hc45 : (W4.setCell ⟨w2.heap.size, 0, none⟩ (.int .i64 a)).cell? ⟨w2.heap.size, 2, none⟩ = some (.int .i64 0) := by rw [cell_of_row _ _ _ _ _ _ HF37.out]; rfl
          have hc46 : (W4.setCell ⟨w2.heap.size, 0, none⟩ (.int .i64 a)).cell? ⟨w2.heap.size, 3, none⟩ = some (.string ⟨#[]⟩) := by rw [cell_of_row _ _ _ _ _ _ HF37.out]; rfl
          have hc47 : (W4.setCell ⟨w2.heap.size, 0, none⟩ (.int .i64 a)).cell? ⟨w2.heap.size, 4, none⟩ = some (.string ⟨#[]⟩) := by rw [cell_of_row _ _ _ _ _ _ HF37.out]; rfl
          have hc48 : (W4.setCell ⟨w2.heap.size, 0, none⟩ (.int .i64 a)).cell? ⟨w2.heap.size, 5, none⟩ = some (.string ⟨#[]⟩) := by rw [cell_of_row _ _ _ _ _ _ HF37.out]; rfl
          have hc49 : (W4.setCell ⟨w2.heap.size, 0, none⟩ (.int .i64 a)).cell? ⟨w2.heap.size, 6, none⟩ = some (.int .i64 0) := by rw [cell_of_row _ _ _ _ _ _ HF37.out]; rfl
          have hc50 : (W4.setCell ⟨w2.heap.size, 0, none⟩ (.int .i64 a)).cell? ⟨w2.heap.size, 7, none⟩ = some (.int .i64 0) := by rw [cell_of_row _ _ _ _ _ _ HF37.out]; rfl
          go_wp2_with fail
          refine (H2.out (W4.setCell ⟨w2.heap.size, 0, none⟩ (.int .i64 a))).mono ?_
          rintro e w5 ⟨rfl, hb5⟩
          clear hc24 hc25 hc26 hc27 hc28 hc29 hc30 hc31 hc32 hc33 hc34 hz35 hc40 hc41 hc42 hc43 hc44 hc45 hc46 hc47 hc48 hc49 hc50
          have HF51 := Lib.hid (blk_below HF36.out hb5)
          have HF52 := Lib.hid (blk_below HF37.out hb5)
          have HF53 := Lib.hid (blk_below HF38.out hb5)
          have HB54 := Lib.hid (HB39.out.trans (hb5.mono HB39.out.size))
          clear hb5 HB39 HF36 HF37 HF38
          go_wp2_with (first
            | refine wpList_store_rowY rfl 213 (.tmp 8) (.tmp 42) rfl (w2.heap.size + 1) #[.string Y, .int .i64 (q2 : Int), .int .i64 e2] rfl rfl 213 _ HF53.out (info_scE _ _ _) rfl (one_scE _ _ _) w.heap.size w HB54.out (by omega) ?_)
          intro W6 hbk hoth hbel _
          have HF55 := Lib.hid (blk_oth HF51.out hoth.out (by omega))
          have HF56 := Lib.hid (blk_oth HF52.out hoth.out (by omega))
          have HF57 := Lib.hid hbk.out
          have HB58 := Lib.hid hbel.out
          clear hbk hoth hbel HB54  HF51 HF52 HF53
          have hc59 : W6.cell? ⟨w2.heap.size, 0, none⟩ = some (.int .i64 a) := by rw [cell_of_row _ _ _ _ _ _ HF56.out]; rfl
          have hc60 : W6.cell? ⟨w2.heap.size, 1, none⟩ = some (.int .i64 0) := by rw [cell_of_row _ _ _ _ _ _ HF56.out]; rfl
          have hc61 : W6.cell? ⟨w2.heap.size, 2, none⟩ = some (.int .i64 0) := by rw [cell_of_row _ _ _ _ _ _ HF56.out]; rfl
          have hc62 : W6.cell? ⟨w2.heap.size, 3, none⟩ = some (.string ⟨#[]⟩) := by rw [cell_of_row _ _ _ _ _ _ HF56.out]; rfl
          have hc63 : W6.cell? ⟨w2.heap.size, 4, none⟩ = some (.string ⟨#[]⟩) := by rw [cell_of_row _ _ _ _ _ _ HF56.out]; rfl
          have hc64 : W6.cell? ⟨w2.heap.size, 5, none⟩ = some (.string ⟨#[]⟩) := by rw [cell_of_row _ _ _ _ _ _ HF56.out]; rfl
          have hc65 : W6.cell? ⟨w2.heap.size, 6, none⟩ = some (.int .i64 0) := by rw [cell_of_row _ _ _ _ _ _ HF56.out]; rfl
          have hc66 : W6.cell? ⟨w2.heap.size, 7, none⟩ = some (.int .i64 0) := by rw [cell_of_row _ _ _ _ _ _ HF56.out]; rfl
          have hc67 : W6.cell? ⟨w2.heap.size + 1, 0, none⟩ = some (.string Y) := by rw [cell_of_row _ _ _ _ _ _ HF57.out]; rfl
          have hc68 : W6.cell? ⟨w2.heap.size + 1, 1, none⟩ = some (.int .i64 (q2 : Int)) := by rw [cell_of_row _ _ _ _ _ _ HF57.out]; rfl
          have hc69 : W6.cell? ⟨w2.heap.size + 1, 2, none⟩ = some (.int .i64 e2) := by rw [cell_of_row _ _ _ _ _ _ HF57.out]; rfl
          have hz70 : W6.frozen? ⟨w2.heap.size, 1, none⟩ = false := frozen_of_row _ _ _ _ _ HF56.out
          have HF71 := Lib.hid (show (W6.setCell ⟨w2.heap.size, 1, none⟩ (.int .i64 b)).heap[w.heap.size]? = some (.cells #[.int .i64 0, .int .i64 0, .int .i64 0, .string ⟨#[]⟩, .string ⟨#[]⟩, .string ⟨#[]⟩, .int .i64 0, .int .i64 0] 42 (0, 0)) by rw [Below.heap_setCell _ _ _ _ (by show w.heap.size ≠ w2.heap.size; omega)]; exact HF55.out)
          have HF72 := Lib.hid (show (W6.setCell ⟨w2.heap.size, 1, none⟩ (.int .i64 b)).heap[w2.heap.size]? = some (.cells #[.int .i64 a, .int .i64 b, .int .i64 0, .string ⟨#[]⟩, .string ⟨#[]⟩, .string ⟨#[]⟩, .int .i64 0, .int .i64 0] 42 (0, 0)) by have h := heap_setCell_at (i := 1) (u := .int .i64 b) HF56.out; exact h)
          have HF73 := Lib.hid (show (W6.setCell ⟨w2.heap.size, 1, none⟩ (.int .i64 b)).heap[w2.heap.size + 1]? = some (.cells #[.string Y, .int .i64 (q2 : Int), .int .i64 e2] 213 (0, 0)) by rw [Below.heap_setCell _ _ _ _ (by show w2.heap.size + 1 ≠ w2.heap.size; omega)]; exact HF57.out)
          have HB74 := Lib.hid (HB58.out.setCell (p := ⟨w2.heap.size, 1, none⟩) (by show w.heap.size ≤ w2.heap.size; omega) (.int .i64 b))
          have hc75 : (W6.setCell ⟨w2.heap.size, 1, none⟩ (.int .i64 b)).cell? ⟨w2.heap.size + 1, 0, none⟩ = some (.string Y) := by rw [cell_of_row _ _ _ _ _ _ HF73.out]; rfl
          have hc76 : (W6.setCell ⟨w2.heap.size, 1, none⟩ (.int .i64 b)).cell? ⟨w2.heap.size + 1, 1, none⟩ = some (.int .i64 (q2 : Int)) := by rw [cell_of_row _ _ _ _ _ _ HF73.out]; rfl
          have hc77 : (W6.setCell ⟨w2.heap.size, 1, none⟩ (.int .i64 b)).cell? ⟨w2.heap.size + 1, 2, none⟩ = some (.int .i64 e2) := by rw [cell_of_row _ _ _ _ _ _ HF73.out]; rfl
          have hc78 : (W6.setCell ⟨w2.heap.size, 1, none⟩ (.int .i64 b)).cell? ⟨w2.heap.size, 0, none⟩ = some (.int .i64 a) := by rw [cell_of_row _ _ _ _ _ _ HF72.out]; rfl
          have hc79 : (W6.setCell ⟨w2.heap.size, 1, none⟩ (.int .i64 b)).cell? ⟨w2.heap.size, 1, none⟩ = some (.int .i64 b) := by rw [cell_of_row _ _ _ _ _ _ HF72.out]; rfl
          have hc80 : (W6.setCell ⟨w2.heap.size, 1, none⟩ (.int .i64 b)).cell? ⟨w2.heap.size, 2, none⟩ = some (.int .i64 0) := by rw [cell_of_row _ _ _ _ _ _ HF72.out]; rfl
          have hc81 : (W6.setCell ⟨w2.heap.size, 1, none⟩ (.int .i64 b)).cell? ⟨w2.heap.size, 3, none⟩ = some (.string ⟨#[]⟩) := by rw [cell_of_row _ _ _ _ _ _ HF72.out]; rfl
          have hc82 : (W6.setCell ⟨w2.heap.size, 1, none⟩ (.int .i64 b)).cell? ⟨w2.heap.size, 4, none⟩ = some (.string ⟨#[]⟩) := by rw [cell_of_row _ _ _ _ _ _ HF72.out]; rfl
          have hc83 : (W6.setCell ⟨w2.heap.size, 1, none⟩ (.int .i64 b)).cell? ⟨w2.heap.size, 5, none⟩ = some (.string ⟨#[]⟩) := by rw [cell_of_row _ _ _ _ _ _ HF72.out]; rfl
          have hc84 : (W6.setCell ⟨w2.heap.size, 1, none⟩ (.int .i64 b)).cell? ⟨w2.heap.size, 6, none⟩ = some (.int .i64 0) := by rw [cell_of_row _ _ _ _ _ _ HF72.out]; rfl
          have hc85 : (W6.setCell ⟨w2.heap.size, 1, none⟩ (.int .i64 b)).cell? ⟨w2.heap.size, 7, none⟩ = some (.int .i64 0) := by rw [cell_of_row _ _ _ _ _ _ HF72.out]; rfl
          go_wp2_with fail
          refine (H3.out (W6.setCell ⟨w2.heap.size, 1, none⟩ (.int .i64 b))).mono ?_
          rintro e w7 ⟨rfl, hb7⟩
          clear hc59 hc60 hc61 hc62 hc63 hc64 hc65 hc66 hc67 hc68 hc69 hz70 hc75 hc76 hc77 hc78 hc79 hc80 hc81 hc82 hc83 hc84 hc85
          have HF86 := Lib.hid (blk_below HF71.out hb7)
          have HF87 := Lib.hid (blk_below HF72.out hb7)
          have HF88 := Lib.hid (blk_below HF73.out hb7)
          have HB89 := Lib.hid (HB74.out.trans (hb7.mono HB74.out.size))
          clear hb7 HB74 HF71 HF72 HF73
          go_wp2_with (first
            | refine wpList_store_rowY rfl 213 (.tmp 8) (.tmp 48) rfl (w2.heap.size + 1) #[.string Y, .int .i64 (q3 : Int), .int .i64 e3] rfl rfl 213 _ HF88.out (info_scE _ _ _) rfl (one_scE _ _ _) w.heap.size w HB89.out (by omega) ?_)
          intro W8 hbk hoth hbel _
          have HF90 := Lib.hid (blk_oth HF86.out hoth.out (by omega))
          have HF91 := Lib.hid (blk_oth HF87.out hoth.out (by omega))
          have HF92 := Lib.hid hbk.out
          have HB93 := Lib.hid hbel.out
          clear hbk hoth hbel HB89  HF86 HF87 HF88
          have hc94 : W8.cell? ⟨w2.heap.size, 0, none⟩ = some (.int .i64 a) := by rw [cell_of_row _ _ _ _ _ _ HF91.out]; rfl
          have hc95 : W8.cell? ⟨w2.heap.size, 1, none⟩ = some (.int .i64 b) := by rw [cell_of_row _ _ _ _ _ _ HF91.out]; rfl
          have hc96 : W8.cell? ⟨w2.heap.size, 2, none⟩ = some (.int .i64 0) := by rw [cell_of_row _ _ _ _ _ _ HF91.out]; rfl
          have hc97 : W8.cell? ⟨w2.heap.size, 3, none⟩ = some (.string ⟨#[]⟩) := by rw [cell_of_row _ _ _ _ _ _ HF91.out]; rfl
          have hc98 : W8.cell? ⟨w2.heap.size, 4, none⟩ = some (.string ⟨#[]⟩) := by rw [cell_of_row _ _ _ _ _ _ HF91.out]; rfl
          have hc99 : W8.cell? ⟨w2.heap.size, 5, none⟩ = some (.string ⟨#[]⟩) := by rw [cell_of_row _ _ _ _ _ _ HF91.out]; rfl
          have hc100 : W8.cell? ⟨w2.heap.size, 6, none⟩ = some (.int .i64 0) := by rw [cell_of_row _ _ _ _ _ _ HF91.out]; rfl
          have hc101 : W8.cell? ⟨w2.heap.size, 7, none⟩ = some (.int .i64 0) := by rw [cell_of_row _ _ _ _ _ _ HF91.out]; rfl
          have hc102 : W8.cell? ⟨w2.heap.size + 1, 0, none⟩ = some (.string Y) := by rw [cell_of_row _ _ _ _ _ _ HF92.out]; rfl
          have hc103 : W8.cell? ⟨w2.heap.size + 1, 1, none⟩ = some (.int .i64 (q3 : Int)) := by rw [cell_of_row _ _ _ _ _ _ HF92.out]; rfl
          have hc104 : W8.cell? ⟨w2.heap.size + 1, 2, none⟩ = some (.int .i64 e3) := by rw [cell_of_row _ _ _ _ _ _ HF92.out]; rfl
          have hz105 : W8.frozen? ⟨w2.heap.size, 2, none⟩ = false := frozen_of_row _ _ _ _ _ HF91.out
          have HF106 := Lib.hid (show (W8.setCell ⟨w2.heap.size, 2, none⟩ (.int .i64 k)).heap[w.heap.size]? = some (.cells #[.int .i64 0, .int .i64 0, .int .i64 0, .string ⟨#[]⟩, .string ⟨#[]⟩, .string ⟨#[]⟩, .int .i64 0, .int .i64 0] 42 (0, 0)) by rw [Below.heap_setCell _ _ _ _ (by show w.heap.size ≠ w2.heap.size; omega)]; exact HF90.out)
          have HF107 := Lib.hid (show (W8.setCell ⟨w2.heap.size, 2, none⟩ (.int .i64 k)).heap[w2.heap.size]? = some (.cells #[.int .i64 a, .int .i64 b, .int .i64 k, .string ⟨#[]⟩, .string ⟨#[]⟩, .string ⟨#[]⟩, .int .i64 0, .int .i64 0] 42 (0, 0)) by have h := heap_setCell_at (i := 2) (u := .int .i64 k) HF91.out; exact h)
          have HF108 := Lib.hid (show (W8.setCell ⟨w2.heap.size, 2, none⟩ (.int .i64 k)).heap[w2.heap.size + 1]? = some (.cells #[.string Y, .int .i64 (q3 : Int), .int .i64 e3] 213 (0, 0)) by rw [Below.heap_setCell _ _ _ _ (by show w2.heap.size + 1 ≠ w2.heap.size; omega)]; exact HF92.out)
          have HB109 := Lib.hid (HB93.out.setCell (p := ⟨w2.heap.size, 2, none⟩) (by show w.heap.size ≤ w2.heap.size; omega) (.int .i64 k))
          have hc110 : (W8.setCell ⟨w2.heap.size, 2, none⟩ (.int .i64 k)).cell? ⟨w2.heap.size + 1, 0, none⟩ = some (.string Y) := by rw [cell_of_row _ _ _ _ _ _ HF108.out]; rfl
          have hc111 : (W8.setCell ⟨w2.heap.size, 2, none⟩ (.int .i64 k)).cell? ⟨w2.heap.size + 1, 1, none⟩ = some (.int .i64 (q3 : Int)) := by rw [cell_of_row _ _ _ _ _ _ HF108.out]; rfl
          have hc112 : (W8.setCell ⟨w2.heap.size, 2, none⟩ (.int .i64 k)).cell? ⟨w2.heap.size + 1, 2, none⟩ = some (.int .i64 e3) := by rw [cell_of_row _ _ _ _ _ _ HF108.out]; rfl
          have hc113 : (W8.setCell ⟨w2.heap.size, 2, none⟩ (.int .i64 k)).cell? ⟨w2.heap.size, 0, none⟩ = some (.int .i64 a) := by rw [cell_of_row _ _ _ _ _ _ HF107.out]; rfl
          have hc114 : (W8.setCell ⟨w2.heap.size, 2, none⟩ (.int .i64 k)).cell? ⟨w2.heap.size, 1, none⟩ = some (.int .i64 b) := by rw [cell_of_row _ _ _ _ _ _ HF107.out]; rfl
          have hc115 : (W8.setCell ⟨w2.heap.size, 2, none⟩ (.int .i64 k)).cell? ⟨w2.heap.size, 2, none⟩ = some (.int .i64 k) := by rw [cell_of_row _ _ _ _ _ _ HF107.out]; rfl
          have hc116 : (W8.setCell ⟨w2.heap.size, 2, none⟩ (.int .i64 k)).cell? ⟨w2.heap.size, 3, none⟩ = some (.string ⟨#[]⟩) := by rw [cell_of_row _ _ _ _ _ _ HF107.out]; rfl
          have hc117 : (W8.setCell ⟨w2.heap.size, 2, none⟩ (.int .i64 k)).cell? ⟨w2.heap.size, 4, none⟩ = some (.string ⟨#[]⟩) := by rw [cell_of_row _ _ _ _ _ _ HF107.out]; rfl
          have hc118 : (W8.setCell ⟨w2.heap.size, 2, none⟩ (.int .i64 k)).cell? ⟨w2.heap.size, 5, none⟩ = some (.string ⟨#[]⟩) := by rw [cell_of_row _ _ _ _ _ _ HF107.out]; rfl
          have hc119 : (W8.setCell ⟨w2.heap.size, 2, none⟩ (.int .i64 k)).cell? ⟨w2.heap.size, 6, none⟩ = some (.int .i64 0) := by rw [cell_of_row _ _ _ _ _ _ HF107.out]; rfl
          have hc120 : (W8.setCell ⟨w2.heap.size, 2, none⟩ (.int .i64 k)).cell? ⟨w2.heap.size, 7, none⟩ = some (.int .i64 0) := by rw [cell_of_row _ _ _ _ _ _ HF107.out]; rfl
          go_wp2_with fail
          refine (H4.out (W8.setCell ⟨w2.heap.size, 2, none⟩ (.int .i64 k))).mono ?_
          rintro e w9 ⟨rfl, hb9⟩
          clear hc94 hc95 hc96 hc97 hc98 hc99 hc100 hc101 hc102 hc103 hc104 hz105 hc110 hc111 hc112 hc113 hc114 hc115 hc116 hc117 hc118 hc119 hc120
          have HF121 := Lib.hid (blk_below HF106.out hb9)
          have HF122 := Lib.hid (blk_below HF107.out hb9)
          have HF123 := Lib.hid (blk_below HF108.out hb9)
          have HB124 := Lib.hid (HB109.out.trans (hb9.mono HB109.out.size))
          clear hb9 HB109 HF106 HF107 HF108
          go_wp2_with (first
            | refine wpList_store_rowY rfl 213 (.tmp 8) (.tmp 54) rfl (w2.heap.size + 1) #[.string Y, .int .i64 (q4 : Int), .int .i64 e4] rfl rfl 213 _ HF123.out (info_scE _ _ _) rfl (one_scE _ _ _) w.heap.size w HB124.out (by omega) ?_)
          intro W10 hbk hoth hbel _
          have HF125 := Lib.hid (blk_oth HF121.out hoth.out (by omega))
          have HF126 := Lib.hid (blk_oth HF122.out hoth.out (by omega))
          have HF127 := Lib.hid hbk.out
          have HB128 := Lib.hid hbel.out
          clear hbk hoth hbel HB124  HF121 HF122 HF123
          have hc129 : W10.cell? ⟨w2.heap.size, 0, none⟩ = some (.int .i64 a) := by rw [cell_of_row _ _ _ _ _ _ HF126.out]; rfl
          have hc130 : W10.cell? ⟨w2.heap.size, 1, none⟩ = some (.int .i64 b) := by rw [cell_of_row _ _ _ _ _ _ HF126.out]; rfl
          have hc131 : W10.cell? ⟨w2.heap.size, 2, none⟩ = some (.int .i64 k) := by rw [cell_of_row _ _ _ _ _ _ HF126.out]; rfl
          have hc132 : W10.cell? ⟨w2.heap.size, 3, none⟩ = some (.string ⟨#[]⟩) := by rw [cell_of_row _ _ _ _ _ _ HF126.out]; rfl
          have hc133 : W10.cell? ⟨w2.heap.size, 4, none⟩ = some (.string ⟨#[]⟩) := by rw [cell_of_row _ _ _ _ _ _ HF126.out]; rfl
          have hc134 : W10.cell? ⟨w2.heap.size, 5, none⟩ = some (.string ⟨#[]⟩) := by rw [cell_of_row _ _ _ _ _ _ HF126.out]; rfl
          have hc135 : W10.cell? ⟨w2.heap.size, 6, none⟩ = some (.int .i64 0) := by rw [cell_of_row _ _ _ _ _ _ HF126.out]; rfl
          have hc136 : W10.cell? ⟨w2.heap.size, 7, none⟩ = some (.int .i64 0) := by rw [cell_of_row _ _ _ _ _ _ HF126.out]; rfl
          have hc137 : W10.cell? ⟨w2.heap.size + 1, 0, none⟩ = some (.string Y) := by rw [cell_of_row _ _ _ _ _ _ HF127.out]; rfl
          have hc138 : W10.cell? ⟨w2.heap.size + 1, 1, none⟩ = some (.int .i64 (q4 : Int)) := by rw [cell_of_row _ _ _ _ _ _ HF127.out]; rfl
          have hc139 : W10.cell? ⟨w2.heap.size + 1, 2, none⟩ = some (.int .i64 e4) := by rw [cell_of_row _ _ _ _ _ _ HF127.out]; rfl
          have hz140 : W10.frozen? ⟨w2.heap.size, 3, none⟩ = false := frozen_of_row _ _ _ _ _ HF126.out
          have HF141 := Lib.hid (show (W10.setCell ⟨w2.heap.size, 3, none⟩ (.string x)).heap[w.heap.size]? = some (.cells #[.int .i64 0, .int .i64 0, .int .i64 0, .string ⟨#[]⟩, .string ⟨#[]⟩, .string ⟨#[]⟩, .int .i64 0, .int .i64 0] 42 (0, 0)) by rw [Below.heap_setCell _ _ _ _ (by show w.heap.size ≠ w2.heap.size; omega)]; exact HF125.out)
          have HF142 := Lib.hid (show (W10.setCell ⟨w2.heap.size, 3, none⟩ (.string x)).heap[w2.heap.size]? = some (.cells #[.int .i64 a, .int .i64 b, .int .i64 k, .string x, .string ⟨#[]⟩, .string ⟨#[]⟩, .int .i64 0, .int .i64 0] 42 (0, 0)) by have h := heap_setCell_at (i := 3) (u := .string x) HF126.out; exact h)
          have HF143 := Lib.hid (show (W10.setCell ⟨w2.heap.size, 3, none⟩ (.string x)).heap[w2.heap.size + 1]? = some (.cells #[.string Y, .int .i64 (q4 : Int), .int .i64 e4] 213 (0, 0)) by rw [Below.heap_setCell _ _ _ _ (by show w2.heap.size + 1 ≠ w2.heap.size; omega)]; exact HF127.out)
          have HB144 := Lib.hid (HB128.out.setCell (p := ⟨w2.heap.size, 3, none⟩) (by show w.heap.size ≤ w2.heap.size; omega) (.string x))
          have hc145 : (W10.setCell ⟨w2.heap.size, 3, none⟩ (.string x)).cell? ⟨w2.heap.size + 1, 0, none⟩ = some (.string Y) := by rw [cell_of_row _ _ _ _ _ _ HF143.out]; rfl
          have hc146 : (W10.setCell ⟨w2.heap.size, 3, none⟩ (.string x)).cell? ⟨w2.heap.size + 1, 1, none⟩ = some (.int .i64 (q4 : Int)) := by rw [cell_of_row _ _ _ _ _ _ HF143.out]; rfl
          have hc147 : (W10.setCell ⟨w2.heap.size, 3, none⟩ (.string x)).cell? ⟨w2.heap.size + 1, 2, none⟩ = some (.int .i64 e4) := by rw [cell_of_row _ _ _ _ _ _ HF143.out]; rfl
          have hc148 : (W10.setCell ⟨w2.heap.size, 3, none⟩ (.string x)).cell? ⟨w2.heap.size, 0, none⟩ = some (.int .i64 a) := by rw [cell_of_row _ _ _ _ _ _ HF142.out]; rfl
          have hc149 : (W10.setCell ⟨w2.heap.size, 3, none⟩ (.string x)).cell? ⟨w2.heap.size, 1, none⟩ = some (.int .i64 b) := by rw [cell_of_row _ _ _ _ _ _ HF142.out]; rfl
          have hc150 : (W10.setCell ⟨w2.heap.size, 3, none⟩ (.string x)).cell? ⟨w2.heap.size, 2, none⟩ = some (.int .i64 k) := by rw [cell_of_row _ _ _ _ _ _ HF142.out]; rfl
          have hc151 : (W10.setCell ⟨w2.heap.size, 3, none⟩ (.string x)).cell? ⟨w2.heap.size, 3, none⟩ = some (.string x) := by rw [cell_of_row _ _ _ _ _ _ HF142.out]; rfl
          have hc152 : (W10.setCell ⟨w2.heap.size, 3, none⟩ (.string x)).cell? ⟨w2.heap.size, 4, none⟩ = some (.string ⟨#[]⟩) := by rw [cell_of_row _ _ _ _ _ _ HF142.out]; rfl
          have hc153 : (W10.setCell ⟨w2.heap.size, 3, none⟩ (.string x)).cell? ⟨w2.heap.size, 5, none⟩ = some (.string ⟨#[]⟩) := by rw [cell_of_row _ _ _ _ _ _ HF142.out]; rfl
          have hc154 : (W10.setCell ⟨w2.heap.size, 3, none⟩ (.string x)).cell? ⟨w2.heap.size, 6, none⟩ = some (.int .i64 0) := by rw [cell_of_row _ _ _ _ _ _ HF142.out]; rfl
          have hc155 : (W10.setCell ⟨w2.heap.size, 3, none⟩ (.string x)).cell? ⟨w2.heap.size, 7, none⟩ = some (.int .i64 0) := by rw [cell_of_row _ _ _ _ _ _ HF142.out]; rfl
          go_wp2_with fail
          refine (H5.out (W10.setCell ⟨w2.heap.size, 3, none⟩ (.string x))).mono ?_
          rintro e w11 ⟨rfl, hb11⟩
          clear hc129 hc130 hc131 hc132 hc133 hc134 hc135 hc136 hc137 hc138 hc139 hz140 hc145 hc146 hc147 hc148 hc149 hc150 hc151 hc152 hc153 hc154 hc155
          have HF156 := Lib.hid (blk_below HF141.out hb11)
          have HF157 := Lib.hid (blk_below HF142.out hb11)
          have HF158 := Lib.hid (blk_below HF143.out hb11)
          have HB159 := Lib.hid (HB144.out.trans (hb11.mono HB144.out.size))
          clear hb11 HB144 HF141 HF142 HF143
          go_wp2_with (first
            | refine wpList_store_rowY rfl 213 (.tmp 8) (.tmp 60) rfl (w2.heap.size + 1) #[.string Y, .int .i64 (q5 : Int), .int .i64 e5] rfl rfl 213 _ HF158.out (info_scE _ _ _) rfl (one_scE _ _ _) w.heap.size w HB159.out (by omega) ?_)
          intro W12 hbk hoth hbel _
          have HF160 := Lib.hid (blk_oth HF156.out hoth.out (by omega))
          have HF161 := Lib.hid (blk_oth HF157.out hoth.out (by omega))
          have HF162 := Lib.hid hbk.out
          have HB163 := Lib.hid hbel.out
          clear hbk hoth hbel HB159  HF156 HF157 HF158
          have hc164 : W12.cell? ⟨w2.heap.size, 0, none⟩ = some (.int .i64 a) := by rw [cell_of_row _ _ _ _ _ _ HF161.out]; rfl
          have hc165 : W12.cell? ⟨w2.heap.size, 1, none⟩ = some (.int .i64 b) := by rw [cell_of_row _ _ _ _ _ _ HF161.out]; rfl
          have hc166 : W12.cell? ⟨w2.heap.size, 2, none⟩ = some (.int .i64 k) := by rw [cell_of_row _ _ _ _ _ _ HF161.out]; rfl
          have hc167 : W12.cell? ⟨w2.heap.size, 3, none⟩ = some (.string x) := by rw [cell_of_row _ _ _ _ _ _ HF161.out]; rfl
          have hc168 : W12.cell? ⟨w2.heap.size, 4, none⟩ = some (.string ⟨#[]⟩) := by rw [cell_of_row _ _ _ _ _ _ HF161.out]; rfl
          have hc169 : W12.cell? ⟨w2.heap.size, 5, none⟩ = some (.string ⟨#[]⟩) := by rw [cell_of_row _ _ _ _ _ _ HF161.out]; rfl
          have hc170 : W12.cell? ⟨w2.heap.size, 6, none⟩ = some (.int .i64 0) := by rw [cell_of_row _ _ _ _ _ _ HF161.out]; rfl
          have hc171 : W12.cell? ⟨w2.heap.size, 7, none⟩ = some (.int .i64 0) := by rw [cell_of_row _ _ _ _ _ _ HF161.out]; rfl
          have hc172 : W12.cell? ⟨w2.heap.size + 1, 0, none⟩ = some (.string Y) := by rw [cell_of_row _ _ _ _ _ _ HF162.out]; rfl
          have hc173 : W12.cell? ⟨w2.heap.size + 1, 1, none⟩ = some (.int .i64 (q5 : Int)) := by rw [cell_of_row _ _ _ _ _ _ HF162.out]; rfl
          have hc174 : W12.cell? ⟨w2.heap.size + 1, 2, none⟩ = some (.int .i64 e5) := by rw [cell_of_row _ _ _ _ _ _ HF162.out]; rfl
          have hz175 : W12.frozen? ⟨w2.heap.size, 4, none⟩ = false := frozen_of_row _ _ _ _ _ HF161.out
          have HF176 := Lib.hid (show (W12.setCell ⟨w2.heap.size, 4, none⟩ (.string o)).heap[w.heap.size]? = some (.cells #[.int .i64 0, .int .i64 0, .int .i64 0, .string ⟨#[]⟩, .string ⟨#[]⟩, .string ⟨#[]⟩, .int .i64 0, .int .i64 0] 42 (0, 0)) by rw [Below.heap_setCell _ _ _ _ (by show w.heap.size ≠ w2.heap.size; omega)]; exact HF160.out)
          have HF177 := Lib.hid (show (W12.setCell ⟨w2.heap.size, 4, none⟩ (.string o)).heap[w2.heap.size]? = some (.cells #[.int .i64 a, .int .i64 b, .int .i64 k, .string x, .string o, .string ⟨#[]⟩, .int .i64 0, .int .i64 0] 42 (0, 0)) by have h := heap_setCell_at (i := 4) (u := .string o) HF161.out; exact h)
          have HF178 := Lib.hid (show (W12.setCell ⟨w2.heap.size, 4, none⟩ (.string o)).heap[w2.heap.size + 1]? = some (.cells #[.string Y, .int .i64 (q5 : Int), .int .i64 e5] 213 (0, 0)) by rw [Below.heap_setCell _ _ _ _ (by show w2.heap.size + 1 ≠ w2.heap.size; omega)]; exact HF162.out)
          have HB179 := Lib.hid (HB163.out.setCell (p := ⟨w2.heap.size, 4, none⟩) (by show w.heap.size ≤ w2.heap.size; omega) (.string o))
          have hc180 : (W12.setCell ⟨w2.heap.size, 4, none⟩ (.string o)).cell? ⟨w2.heap.size + 1, 0, none⟩ = some (.string Y) := by rw [cell_of_row _ _ _ _ _ _ HF178.out]; rfl
          have hc181 : (W12.setCell ⟨w2.heap.size, 4, none⟩ (.string o)).cell? ⟨w2.heap.size + 1, 1, none⟩ = some (.int .i64 (q5 : Int)) := by rw [cell_of_row _ _ _ _ _ _ HF178.out]; rfl
          have hc182 : (W12.setCell ⟨w2.heap.size, 4, none⟩ (.string o)).cell? ⟨w2.heap.size + 1, 2, none⟩ = some (.int .i64 e5) := by rw [cell_of_row _ _ _ _ _ _ HF178.out]; rfl
          have hc183 : (W12.setCell ⟨w2.heap.size, 4, none⟩ (.string o)).cell? ⟨w2.heap.size, 0, none⟩ = some (.int .i64 a) := by rw [cell_of_row _ _ _ _ _ _ HF177.out]; rfl
          have hc184 : (W12.setCell ⟨w2.heap.size, 4, none⟩ (.string o)).cell? ⟨w2.heap.size, 1, none⟩ = some (.int .i64 b) := by rw [cell_of_row _ _ _ _ _ _ HF177.out]; rfl
          have hc185 : (W12.setCell ⟨w2.heap.size, 4, none⟩ (.string o)).cell? ⟨w2.heap.size, 2, none⟩ = some (.int .i64 k) := by rw [cell_of_row _ _ _ _ _ _ HF177.out]; rfl
          have hc186 : (W12.setCell ⟨w2.heap.size, 4, none⟩ (.string o)).cell? ⟨w2.heap.size, 3, none⟩ = some (.string x) := by rw [cell_of_row _ _ _ _ _ _ HF177.out]; rfl
          have hc187 : (W12.setCell ⟨w2.heap.size, 4, none⟩ (.string o)).cell? ⟨w2.heap.size, 4, none⟩ = some (.string o) := by rw [cell_of_row _ _ _ _ _ _ HF177.out]; rfl
          have hc188 : (W12.setCell ⟨w2.heap.size, 4, none⟩ (.string o)).cell? ⟨w2.heap.size, 5, none⟩ = some (.string ⟨#[]⟩) := by rw [cell_of_row _ _ _ _ _ _ HF177.out]; rfl
          have hc189 : (W12.setCell ⟨w2.heap.size, 4, none⟩ (.string o)).cell? ⟨w2.heap.size, 6, none⟩ = some (.int .i64 0) := by rw [cell_of_row _ _ _ _ _ _ HF177.out]; rfl
          have hc190 : (W12.setCell ⟨w2.heap.size, 4, none⟩ (.string o)).cell? ⟨w2.heap.size, 7, none⟩ = some (.int .i64 0) := by rw [cell_of_row _ _ _ _ _ _ HF177.out]; rfl
          go_wp2_with fail
          refine (H6.out (W12.setCell ⟨w2.heap.size, 4, none⟩ (.string o))).mono ?_
          rintro e w13 ⟨rfl, hb13⟩
          clear hc164 hc165 hc166 hc167 hc168 hc169 hc170 hc171 hc172 hc173 hc174 hz175 hc180 hc181 hc182 hc183 hc184 hc185 hc186 hc187 hc188 hc189 hc190
          have HF191 := Lib.hid (blk_below HF176.out hb13)
          have HF192 := Lib.hid (blk_below HF177.out hb13)
          have HF193 := Lib.hid (blk_below HF178.out hb13)
          have HB194 := Lib.hid (HB179.out.trans (hb13.mono HB179.out.size))
          clear hb13 HB179 HF176 HF177 HF178
          go_wp2_with (first
            | refine wpList_store_rowY rfl 213 (.tmp 8) (.tmp 66) rfl (w2.heap.size + 1) #[.string Y, .int .i64 (q6 : Int), .int .i64 e6] rfl rfl 213 _ HF193.out (info_scE _ _ _) rfl (one_scE _ _ _) w.heap.size w HB194.out (by omega) ?_)
          intro W14 hbk hoth hbel _
          have HF195 := Lib.hid (blk_oth HF191.out hoth.out (by omega))
          have HF196 := Lib.hid (blk_oth HF192.out hoth.out (by omega))
          have HF197 := Lib.hid hbk.out
          have HB198 := Lib.hid hbel.out
          clear hbk hoth hbel HB194  HF191 HF192 HF193
          have hc199 : W14.cell? ⟨w2.heap.size, 0, none⟩ = some (.int .i64 a) := by rw [cell_of_row _ _ _ _ _ _ HF196.out]; rfl
          have hc200 : W14.cell? ⟨w2.heap.size, 1, none⟩ = some (.int .i64 b) := by rw [cell_of_row _ _ _ _ _ _ HF196.out]; rfl
          have hc201 : W14.cell? ⟨w2.heap.size, 2, none⟩ = some (.int .i64 k) := by rw [cell_of_row _ _ _ _ _ _ HF196.out]; rfl
          have hc202 : W14.cell? ⟨w2.heap.size, 3, none⟩ = some (.string x) := by rw [cell_of_row _ _ _ _ _ _ HF196.out]; rfl
          have hc203 : W14.cell? ⟨w2.heap.size, 4, none⟩ = some (.string o) := by rw [cell_of_row _ _ _ _ _ _ HF196.out]; rfl
          have hc204 : W14.cell? ⟨w2.heap.size, 5, none⟩ = some (.string ⟨#[]⟩) := by rw [cell_of_row _ _ _ _ _ _ HF196.out]; rfl
          have hc205 : W14.cell? ⟨w2.heap.size, 6, none⟩ = some (.int .i64 0) := by rw [cell_of_row _ _ _ _ _ _ HF196.out]; rfl
          have hc206 : W14.cell? ⟨w2.heap.size, 7, none⟩ = some (.int .i64 0) := by rw [cell_of_row _ _ _ _ _ _ HF196.out]; rfl
          have hc207 : W14.cell? ⟨w2.heap.size + 1, 0, none⟩ = some (.string Y) := by rw [cell_of_row _ _ _ _ _ _ HF197.out]; rfl
          have hc208 : W14.cell? ⟨w2.heap.size + 1, 1, none⟩ = some (.int .i64 (q6 : Int)) := by rw [cell_of_row _ _ _ _ _ _ HF197.out]; rfl
          have hc209 : W14.cell? ⟨w2.heap.size + 1, 2, none⟩ = some (.int .i64 e6) := by rw [cell_of_row _ _ _ _ _ _ HF197.out]; rfl
          have hz210 : W14.frozen? ⟨w2.heap.size, 5, none⟩ = false := frozen_of_row _ _ _ _ _ HF196.out
          have HF211 := Lib.hid (show (W14.setCell ⟨w2.heap.size, 5, none⟩ (.string n)).heap[w.heap.size]? = some (.cells #[.int .i64 0, .int .i64 0, .int .i64 0, .string ⟨#[]⟩, .string ⟨#[]⟩, .string ⟨#[]⟩, .int .i64 0, .int .i64 0] 42 (0, 0)) by rw [Below.heap_setCell _ _ _ _ (by show w.heap.size ≠ w2.heap.size; omega)]; exact HF195.out)
          have HF212 := Lib.hid (show (W14.setCell ⟨w2.heap.size, 5, none⟩ (.string n)).heap[w2.heap.size]? = some (.cells #[.int .i64 a, .int .i64 b, .int .i64 k, .string x, .string o, .string n, .int .i64 0, .int .i64 0] 42 (0, 0)) by have h := heap_setCell_at (i := 5) (u := .string n) HF196.out; exact h)
          have HF213 := Lib.hid (show (W14.setCell ⟨w2.heap.size, 5, none⟩ (.string n)).heap[w2.heap.size + 1]? = some (.cells #[.string Y, .int .i64 (q6 : Int), .int .i64 e6] 213 (0, 0)) by rw [Below.heap_setCell _ _ _ _ (by show w2.heap.size + 1 ≠ w2.heap.size; omega)]; exact HF197.out)
          have HB214 := Lib.hid (HB198.out.setCell (p := ⟨w2.heap.size, 5, none⟩) (by show w.heap.size ≤ w2.heap.size; omega) (.string n))
          have hc215 : (W14.setCell ⟨w2.heap.size, 5, none⟩ (.string n)).cell? ⟨w2.heap.size + 1, 0, none⟩ = some (.string Y) := by rw [cell_of_row _ _ _ _ _ _ HF213.out]; rfl
          have hc216 : (W14.setCell ⟨w2.heap.size, 5, none⟩ (.string n)).cell? ⟨w2.heap.size + 1, 1, none⟩ = some (.int .i64 (q6 : Int)) := by rw [cell_of_row _ _ _ _ _ _ HF213.out]; rfl
          have hc217 : (W14.setCell ⟨w2.heap.size, 5, none⟩ (.string n)).cell? ⟨w2.heap.size + 1, 2, none⟩ = some (.int .i64 e6) := by rw [cell_of_row _ _ _ _ _ _ HF213.out]; rfl
          have hc218 : (W14.setCell ⟨w2.heap.size, 5, none⟩ (.string n)).cell? ⟨w2.heap.size, 0, none⟩ = some (.int .i64 a) := by rw [cell_of_row _ _ _ _ _ _ HF212.out]; rfl
          have hc219 : (W14.setCell ⟨w2.heap.size, 5, none⟩ (.string n)).cell? ⟨w2.heap.size, 1, none⟩ = some (.int .i64 b) := by rw [cell_of_row _ _ _ _ _ _ HF212.out]; rfl
          have hc220 : (W14.setCell ⟨w2.heap.size, 5, none⟩ (.string n)).cell? ⟨w2.heap.size, 2, none⟩ = some (.int .i64 k) := by rw [cell_of_row _ _ _ _ _ _ HF212.out]; rfl
          have hc221 : (W14.setCell ⟨w2.heap.size, 5, none⟩ (.string n)).cell? ⟨w2.heap.size, 3, none⟩ = some (.string x) := by rw [cell_of_row _ _ _ _ _ _ HF212.out]; rfl
          have hc222 : (W14.setCell ⟨w2.heap.size, 5, none⟩ (.string n)).cell? ⟨w2.heap.size, 4, none⟩ = some (.string o) := by rw [cell_of_row _ _ _ _ _ _ HF212.out]; rfl
          have hc223 : (W14.setCell ⟨w2.heap.size, 5, none⟩ (.string n)).cell? ⟨w2.heap.size, 5, none⟩ = some (.string n) := by rw [cell_of_row _ _ _ _ _ _ HF212.out]; rfl
          have hc224 : (W14.setCell ⟨w2.heap.size, 5, none⟩ (.string n)).cell? ⟨w2.heap.size, 6, none⟩ = some (.int .i64 0) := by rw [cell_of_row _ _ _ _ _ _ HF212.out]; rfl
          have hc225 : (W14.setCell ⟨w2.heap.size, 5, none⟩ (.string n)).cell? ⟨w2.heap.size, 7, none⟩ = some (.int .i64 0) := by rw [cell_of_row _ _ _ _ _ _ HF212.out]; rfl
          go_wp2_with fail
          refine (H7.out (W14.setCell ⟨w2.heap.size, 5, none⟩ (.string n))).mono ?_
          rintro e w15 ⟨rfl, hb15⟩
          clear hc199 hc200 hc201 hc202 hc203 hc204 hc205 hc206 hc207 hc208 hc209 hz210 hc215 hc216 hc217 hc218 hc219 hc220 hc221 hc222 hc223 hc224 hc225
          have HF226 := Lib.hid (blk_below HF211.out hb15)
          have HF227 := Lib.hid (blk_below HF212.out hb15)
          have HF228 := Lib.hid (blk_below HF213.out hb15)
          have HB229 := Lib.hid (HB214.out.trans (hb15.mono HB214.out.size))
          clear hb15 HB214 HF211 HF212 HF213
          go_wp2_with (first
            | refine wpList_store_rowY rfl 213 (.tmp 8) (.tmp 72) rfl (w2.heap.size + 1) #[.string Y, .int .i64 (q7 : Int), .int .i64 e7] rfl rfl 213 _ HF228.out (info_scE _ _ _) rfl (one_scE _ _ _) w.heap.size w HB229.out (by omega) ?_)
          intro W16 hbk hoth hbel _
          have HF230 := Lib.hid (blk_oth HF226.out hoth.out (by omega))
          have HF231 := Lib.hid (blk_oth HF227.out hoth.out (by omega))
          have HF232 := Lib.hid hbk.out
          have HB233 := Lib.hid hbel.out
          clear hbk hoth hbel HB229  HF226 HF227 HF228
          have hc234 : W16.cell? ⟨w2.heap.size, 0, none⟩ = some (.int .i64 a) := by rw [cell_of_row _ _ _ _ _ _ HF231.out]; rfl
          have hc235 : W16.cell? ⟨w2.heap.size, 1, none⟩ = some (.int .i64 b) := by rw [cell_of_row _ _ _ _ _ _ HF231.out]; rfl
          have hc236 : W16.cell? ⟨w2.heap.size, 2, none⟩ = some (.int .i64 k) := by rw [cell_of_row _ _ _ _ _ _ HF231.out]; rfl
          have hc237 : W16.cell? ⟨w2.heap.size, 3, none⟩ = some (.string x) := by rw [cell_of_row _ _ _ _ _ _ HF231.out]; rfl
          have hc238 : W16.cell? ⟨w2.heap.size, 4, none⟩ = some (.string o) := by rw [cell_of_row _ _ _ _ _ _ HF231.out]; rfl
          have hc239 : W16.cell? ⟨w2.heap.size, 5, none⟩ = some (.string n) := by rw [cell_of_row _ _ _ _ _ _ HF231.out]; rfl
          have hc240 : W16.cell? ⟨w2.heap.size, 6, none⟩ = some (.int .i64 0) := by rw [cell_of_row _ _ _ _ _ _ HF231.out]; rfl
          have hc241 : W16.cell? ⟨w2.heap.size, 7, none⟩ = some (.int .i64 0) := by rw [cell_of_row _ _ _ _ _ _ HF231.out]; rfl
          have hc242 : W16.cell? ⟨w2.heap.size + 1, 0, none⟩ = some (.string Y) := by rw [cell_of_row _ _ _ _ _ _ HF232.out]; rfl
          have hc243 : W16.cell? ⟨w2.heap.size + 1, 1, none⟩ = some (.int .i64 (q7 : Int)) := by rw [cell_of_row _ _ _ _ _ _ HF232.out]; rfl
          have hc244 : W16.cell? ⟨w2.heap.size + 1, 2, none⟩ = some (.int .i64 e7) := by rw [cell_of_row _ _ _ _ _ _ HF232.out]; rfl
          have hz245 : W16.frozen? ⟨w2.heap.size, 6, none⟩ = false := frozen_of_row _ _ _ _ _ HF231.out
          have HF246 := Lib.hid (show (W16.setCell ⟨w2.heap.size, 6, none⟩ (.int .i64 t)).heap[w.heap.size]? = some (.cells #[.int .i64 0, .int .i64 0, .int .i64 0, .string ⟨#[]⟩, .string ⟨#[]⟩, .string ⟨#[]⟩, .int .i64 0, .int .i64 0] 42 (0, 0)) by rw [Below.heap_setCell _ _ _ _ (by show w.heap.size ≠ w2.heap.size; omega)]; exact HF230.out)
          have HF247 := Lib.hid (show (W16.setCell ⟨w2.heap.size, 6, none⟩ (.int .i64 t)).heap[w2.heap.size]? = some (.cells #[.int .i64 a, .int .i64 b, .int .i64 k, .string x, .string o, .string n, .int .i64 t, .int .i64 0] 42 (0, 0)) by have h := heap_setCell_at (i := 6) (u := .int .i64 t) HF231.out; exact h)
          have HF248 := Lib.hid (show (W16.setCell ⟨w2.heap.size, 6, none⟩ (.int .i64 t)).heap[w2.heap.size + 1]? = some (.cells #[.string Y, .int .i64 (q7 : Int), .int .i64 e7] 213 (0, 0)) by rw [Below.heap_setCell _ _ _ _ (by show w2.heap.size + 1 ≠ w2.heap.size; omega)]; exact HF232.out)
          have HB249 := Lib.hid (HB233.out.setCell (p := ⟨w2.heap.size, 6, none⟩) (by show w.heap.size ≤ w2.heap.size; omega) (.int .i64 t))
          have hc250 : (W16.setCell ⟨w2.heap.size, 6, none⟩ (.int .i64 t)).cell? ⟨w2.heap.size + 1, 0, none⟩ = some (.string Y) := by rw [cell_of_row _ _ _ _ _ _ HF248.out]; rfl
          have hc251 : (W16.setCell ⟨w2.heap.size, 6, none⟩ (.int .i64 t)).cell? ⟨w2.heap.size + 1, 1, none⟩ = some (.int .i64 (q7 : Int)) := by rw [cell_of_row _ _ _ _ _ _ HF248.out]; rfl
          have hc252 : (W16.setCell ⟨w2.heap.size, 6, none⟩ (.int .i64 t)).cell? ⟨w2.heap.size + 1, 2, none⟩ = some (.int .i64 e7) := by rw [cell_of_row _ _ _ _ _ _ HF248.out]; rfl
          have hc253 : (W16.setCell ⟨w2.heap.size, 6, none⟩ (.int .i64 t)).cell? ⟨w2.heap.size, 0, none⟩ = some (.int .i64 a) := by rw [cell_of_row _ _ _ _ _ _ HF247.out]; rfl
          have hc254 : (W16.setCell ⟨w2.heap.size, 6, none⟩ (.int .i64 t)).cell? ⟨w2.heap.size, 1, none⟩ = some (.int .i64 b) := by rw [cell_of_row _ _ _ _ _ _ HF247.out]; rfl
          have hc255 : (W16.setCell ⟨w2.heap.size, 6, none⟩ (.int .i64 t)).cell? ⟨w2.heap.size, 2, none⟩ = some (.int .i64 k) := by rw [cell_of_row _ _ _ _ _ _ HF247.out]; rfl
          have hc256 : (W16.setCell ⟨w2.heap.size, 6, none⟩ (.int .i64 t)).cell? ⟨w2.heap.size, 3, none⟩ = some (.string x) := by rw [cell_of_row _ _ _ _ _ _ HF247.out]; rfl
          have hc257 : (W16.setCell ⟨w2.heap.size, 6, none⟩ (.int .i64 t)).cell? ⟨w2.heap.size, 4, none⟩ = some (.string o) := by rw [cell_of_row _ _ _ _ _ _ HF247.out]; rfl
          have hc258 : (W16.setCell ⟨w2.heap.size, 6, none⟩ (.int .i64 t)).cell? ⟨w2.heap.size, 5, none⟩ = some (.string n) := by rw [cell_of_row _ _ _ _ _ _ HF247.out]; rfl
          have hc259 : (W16.setCell ⟨w2.heap.size, 6, none⟩ (.int .i64 t)).cell? ⟨w2.heap.size, 6, none⟩ = some (.int .i64 t) := by rw [cell_of_row _ _ _ _ _ _ HF247.out]; rfl
          have hc260 : (W16.setCell ⟨w2.heap.size, 6, none⟩ (.int .i64 t)).cell? ⟨w2.heap.size, 7, none⟩ = some (.int .i64 0) := by rw [cell_of_row _ _ _ _ _ _ HF247.out]; rfl
          go_wp2_with fail
          refine (H8.out (W16.setCell ⟨w2.heap.size, 6, none⟩ (.int .i64 t))).mono ?_
          rintro e w17 ⟨rfl, hb17⟩
          clear hc234 hc235 hc236 hc237 hc238 hc239 hc240 hc241 hc242 hc243 hc244 hz245 hc250 hc251 hc252 hc253 hc254 hc255 hc256 hc257 hc258 hc259 hc260
          have HF261 := Lib.hid (blk_below HF246.out hb17)
          have HF262 := Lib.hid (blk_below HF247.out hb17)
          have HF263 := Lib.hid (blk_below HF248.out hb17)
          have HB264 := Lib.hid (HB249.out.trans (hb17.mono HB249.out.size))
          clear hb17 HB249 HF246 HF247 HF248
          go_wp2_with (first
            | refine wpList_store_rowY rfl 213 (.tmp 8) (.tmp 78) rfl (w2.heap.size + 1) #[.string Y, .int .i64 (q8 : Int), .int .i64 e8] rfl rfl 213 _ HF263.out (info_scE _ _ _) rfl (one_scE _ _ _) w.heap.size w HB264.out (by omega) ?_)
          intro W18 hbk hoth hbel _
          have HF265 := Lib.hid (blk_oth HF261.out hoth.out (by omega))
          have HF266 := Lib.hid (blk_oth HF262.out hoth.out (by omega))
          have HF267 := Lib.hid hbk.out
          have HB268 := Lib.hid hbel.out
          clear hbk hoth hbel HB264  HF261 HF262 HF263
          have hc269 : W18.cell? ⟨w2.heap.size, 0, none⟩ = some (.int .i64 a) := by rw [cell_of_row _ _ _ _ _ _ HF266.out]; rfl
          have hc270 : W18.cell? ⟨w2.heap.size, 1, none⟩ = some (.int .i64 b) := by rw [cell_of_row _ _ _ _ _ _ HF266.out]; rfl
          have hc271 : W18.cell? ⟨w2.heap.size, 2, none⟩ = some (.int .i64 k) := by rw [cell_of_row _ _ _ _ _ _ HF266.out]; rfl
          have hc272 : W18.cell? ⟨w2.heap.size, 3, none⟩ = some (.string x) := by rw [cell_of_row _ _ _ _ _ _ HF266.out]; rfl
          have hc273 : W18.cell? ⟨w2.heap.size, 4, none⟩ = some (.string o) := by rw [cell_of_row _ _ _ _ _ _ HF266.out]; rfl
          have hc274 : W18.cell? ⟨w2.heap.size, 5, none⟩ = some (.string n) := by rw [cell_of_row _ _ _ _ _ _ HF266.out]; rfl
          have hc275 : W18.cell? ⟨w2.heap.size, 6, none⟩ = some (.int .i64 t) := by rw [cell_of_row _ _ _ _ _ _ HF266.out]; rfl
          have hc276 : W18.cell? ⟨w2.heap.size, 7, none⟩ = some (.int .i64 0) := by rw [cell_of_row _ _ _ _ _ _ HF266.out]; rfl
          have hc277 : W18.cell? ⟨w2.heap.size + 1, 0, none⟩ = some (.string Y) := by rw [cell_of_row _ _ _ _ _ _ HF267.out]; rfl
          have hc278 : W18.cell? ⟨w2.heap.size + 1, 1, none⟩ = some (.int .i64 (q8 : Int)) := by rw [cell_of_row _ _ _ _ _ _ HF267.out]; rfl
          have hc279 : W18.cell? ⟨w2.heap.size + 1, 2, none⟩ = some (.int .i64 e8) := by rw [cell_of_row _ _ _ _ _ _ HF267.out]; rfl
          have hz280 : W18.frozen? ⟨w2.heap.size, 7, none⟩ = false := frozen_of_row _ _ _ _ _ HF266.out
          have HF281 := Lib.hid (show (W18.setCell ⟨w2.heap.size, 7, none⟩ (.int .i64 u)).heap[w.heap.size]? = some (.cells #[.int .i64 0, .int .i64 0, .int .i64 0, .string ⟨#[]⟩, .string ⟨#[]⟩, .string ⟨#[]⟩, .int .i64 0, .int .i64 0] 42 (0, 0)) by rw [Below.heap_setCell _ _ _ _ (by show w.heap.size ≠ w2.heap.size; omega)]; exact HF265.out)
          have HF282 := Lib.hid (show (W18.setCell ⟨w2.heap.size, 7, none⟩ (.int .i64 u)).heap[w2.heap.size]? = some (.cells #[.int .i64 a, .int .i64 b, .int .i64 k, .string x, .string o, .string n, .int .i64 t, .int .i64 u] 42 (0, 0)) by have h := heap_setCell_at (i := 7) (u := .int .i64 u) HF266.out; exact h)
          have HF283 := Lib.hid (show (W18.setCell ⟨w2.heap.size, 7, none⟩ (.int .i64 u)).heap[w2.heap.size + 1]? = some (.cells #[.string Y, .int .i64 (q8 : Int), .int .i64 e8] 213 (0, 0)) by rw [Below.heap_setCell _ _ _ _ (by show w2.heap.size + 1 ≠ w2.heap.size; omega)]; exact HF267.out)
          have HB284 := Lib.hid (HB268.out.setCell (p := ⟨w2.heap.size, 7, none⟩) (by show w.heap.size ≤ w2.heap.size; omega) (.int .i64 u))
          have hc285 : (W18.setCell ⟨w2.heap.size, 7, none⟩ (.int .i64 u)).cell? ⟨w2.heap.size + 1, 0, none⟩ = some (.string Y) := by rw [cell_of_row _ _ _ _ _ _ HF283.out]; rfl
          have hc286 : (W18.setCell ⟨w2.heap.size, 7, none⟩ (.int .i64 u)).cell? ⟨w2.heap.size + 1, 1, none⟩ = some (.int .i64 (q8 : Int)) := by rw [cell_of_row _ _ _ _ _ _ HF283.out]; rfl
          have hc287 : (W18.setCell ⟨w2.heap.size, 7, none⟩ (.int .i64 u)).cell? ⟨w2.heap.size + 1, 2, none⟩ = some (.int .i64 e8) := by rw [cell_of_row _ _ _ _ _ _ HF283.out]; rfl
          have hc288 : (W18.setCell ⟨w2.heap.size, 7, none⟩ (.int .i64 u)).cell? ⟨w2.heap.size, 0, none⟩ = some (.int .i64 a) := by rw [cell_of_row _ _ _ _ _ _ HF282.out]; rfl
          have hc289 : (W18.setCell ⟨w2.heap.size, 7, none⟩ (.int .i64 u)).cell? ⟨w2.heap.size, 1, none⟩ = some (.int .i64 b) := by rw [cell_of_row _ _ _ _ _ _ HF282.out]; rfl
          have hc290 : (W18.setCell ⟨w2.heap.size, 7, none⟩ (.int .i64 u)).cell? ⟨w2.heap.size, 2, none⟩ = some (.int .i64 k) := by rw [cell_of_row _ _ _ _ _ _ HF282.out]; rfl
          have hc291 : (W18.setCell ⟨w2.heap.size, 7, none⟩ (.int .i64 u)).cell? ⟨w2.heap.size, 3, none⟩ = some (.string x) := by rw [cell_of_row _ _ _ _ _ _ HF282.out]; rfl
          have hc292 : (W18.setCell ⟨w2.heap.size, 7, none⟩ (.int .i64 u)).cell? ⟨w2.heap.size, 4, none⟩ = some (.string o) := by rw [cell_of_row _ _ _ _ _ _ HF282.out]; rfl
          have hc293 : (W18.setCell ⟨w2.heap.size, 7, none⟩ (.int .i64 u)).cell? ⟨w2.heap.size, 5, none⟩ = some (.string n) := by rw [cell_of_row _ _ _ _ _ _ HF282.out]; rfl
          have hc294 : (W18.setCell ⟨w2.heap.size, 7, none⟩ (.int .i64 u)).cell? ⟨w2.heap.size, 6, none⟩ = some (.int .i64 t) := by rw [cell_of_row _ _ _ _ _ _ HF282.out]; rfl
          have hc295 : (W18.setCell ⟨w2.heap.size, 7, none⟩ (.int .i64 u)).cell? ⟨w2.heap.size, 7, none⟩ = some (.int .i64 u) := by rw [cell_of_row _ _ _ _ _ _ HF282.out]; rfl
          go_wp2_with (first
            | refine wpList_store_rowY rfl 42 (.tmp 2) (.tmp 95) rfl (w.heap.size) #[.int .i64 0, .int .i64 0, .int .i64 0, .string ⟨#[]⟩, .string ⟨#[]⟩, .string ⟨#[]⟩, .int .i64 0, .int .i64 0] rfl rfl 42 _ HF281.out (info_rec _ _ _ _ _ _ _ _) rfl (one_rec _ _ _ _ _ _ _ _) w.heap.size w HB284.out (by omega) ?_)
          intro W19 hbk hoth hbel _
          clear hc269 hc270 hc271 hc272 hc273 hc274 hc275 hc276 hc277 hc278 hc279 hz280 hc285 hc286 hc287 hc288 hc289 hc290 hc291 hc292 hc293 hc294 hc295
          have HF296 := Lib.hid hbk.out
          have HF297 := Lib.hid (blk_oth HF282.out hoth.out (by omega))
          have HF298 := Lib.hid (blk_oth HF283.out hoth.out (by omega))
          have HB299 := Lib.hid hbel.out
          clear hbk hoth hbel HB284  HF281 HF282 HF283
          go_wp2_with fail
          refine bodyPost_ret (results_ctY rfl _ _ (w.heap.size) #[.int .i64 0, .int .i64 0, .int .i64 0, .string ⟨#[]⟩, .string ⟨#[]⟩, .string ⟨#[]⟩, .int .i64 0, .int .i64 0] rfl (run_loadVar_row _ (w.heap.size) 42 42 _ (0, 0) _ HF296.out Tryz.underlying42 rfl (info_rec _ _ _ _ _ _ _ _))) rfl ?_
          exact ⟨rfl, HB299.out⟩
end Go.Proofs.YtiflieaemgamkaaGreatDoor
