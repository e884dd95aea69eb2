/- Plain facts: what is read of a record's bytes, and what was read is a record's bytes; its sector. No condition. -/
import Derived.Test.YtpiafgdbjpfcaaaDoorEc
namespace Go.Proofs.YtpiafgdbjpfcaaaDoor
open Go.RowKit Vi Cm

theorem eight_is (Y : ByteArray) (q : Nat) (a b k t u : Nat) (x o n : ByteArray) (ma mb mk mx mo mn mt mu : Int) (h : Y.data.toList.drop q = put a ++ (put b ++ (put k ++ (put x.size ++ (x.data.toList ++ (put o.size ++ (o.data.toList ++ (put n.size ++ (n.data.toList ++ (put t ++ (put u ++ ([]))))))))))))
    (ha : (a : Int) ≤ ma) (ga : ma ≤ 4294967296) (hb : (b : Int) ≤ mb) (gb : mb ≤ 4294967296) (hk : (k : Int) ≤ mk) (gk : mk ≤ 4294967296) (hx : (x.size : Int) ≤ mx) (gx : mx ≤ 4294967296) (ho : (o.size : Int) ≤ mo) (go : mo ≤ 4294967296) (hn : (n.size : Int) ≤ mn) (gn : mn ≤ 4294967296) (ht : (t : Int) ≤ mt) (gt : mt ≤ 4294967296) (hu : (u : Int) ≤ mu) (gu : mu ≤ 4294967296) :
    ∃ q1 q2 q3 q4 q5 q6 q7 q8, Rd.num Y q 0 ma = ((a : Int), q1, 0) ∧ Rd.num Y q1 0 mb = ((b : Int), q2, 0) ∧ Rd.num Y q2 0 mk = ((k : Int), q3, 0) ∧ Rd.text Y q3 0 mx = (x, q4, 0) ∧ Rd.text Y q4 0 mo = (o, q5, 0) ∧ Rd.text Y q5 0 mn = (n, q6, 0) ∧ Rd.num Y q6 0 mt = ((t : Int), q7, 0) ∧ Rd.num Y q7 0 mu = ((u : Int), q8, 0) ∧ Y.data.toList.drop q8 = [] := by
  have e0 : Y.data.toList.drop (q + (put a).length) = put b ++ (put k ++ (put x.size ++ (x.data.toList ++ (put o.size ++ (o.data.toList ++ (put n.size ++ (n.data.toList ++ (put t ++ (put u ++ ([])))))))))) := by rw [← List.drop_drop, h, List.drop_left]
  have e1 : Y.data.toList.drop ((q + (put a).length) + (put b).length) = put k ++ (put x.size ++ (x.data.toList ++ (put o.size ++ (o.data.toList ++ (put n.size ++ (n.data.toList ++ (put t ++ (put u ++ ([]))))))))) := by rw [← List.drop_drop, e0, List.drop_left]
  have e2 : Y.data.toList.drop (((q + (put a).length) + (put b).length) + (put k).length) = put x.size ++ (x.data.toList ++ (put o.size ++ (o.data.toList ++ (put n.size ++ (n.data.toList ++ (put t ++ (put u ++ ([])))))))) := by rw [← List.drop_drop, e1, List.drop_left]
  have e3 : Y.data.toList.drop ((((q + (put a).length) + (put b).length) + (put k).length) + (put x.size).length + x.size) = put o.size ++ (o.data.toList ++ (put n.size ++ (n.data.toList ++ (put t ++ (put u ++ ([])))))) := by rw [← List.drop_drop, ← List.drop_drop, e2, List.drop_left, show x.size = x.data.toList.length from (ba_len x).symm, List.drop_left]
  have e4 : Y.data.toList.drop (((((q + (put a).length) + (put b).length) + (put k).length) + (put x.size).length + x.size) + (put o.size).length + o.size) = put n.size ++ (n.data.toList ++ (put t ++ (put u ++ ([])))) := by rw [← List.drop_drop, ← List.drop_drop, e3, List.drop_left, show o.size = o.data.toList.length from (ba_len o).symm, List.drop_left]
  have e5 : Y.data.toList.drop ((((((q + (put a).length) + (put b).length) + (put k).length) + (put x.size).length + x.size) + (put o.size).length + o.size) + (put n.size).length + n.size) = put t ++ (put u ++ ([])) := by rw [← List.drop_drop, ← List.drop_drop, e4, List.drop_left, show n.size = n.data.toList.length from (ba_len n).symm, List.drop_left]
  have e6 : Y.data.toList.drop (((((((q + (put a).length) + (put b).length) + (put k).length) + (put x.size).length + x.size) + (put o.size).length + o.size) + (put n.size).length + n.size) + (put t).length) = put u ++ ([]) := by rw [← List.drop_drop, e5, List.drop_left]
  have e7 : Y.data.toList.drop ((((((((q + (put a).length) + (put b).length) + (put k).length) + (put x.size).length + x.size) + (put o.size).length + o.size) + (put n.size).length + n.size) + (put t).length) + (put u).length) = [] := by rw [← List.drop_drop, e6, List.drop_left]
  exact ⟨_, _, _, _, _, _, _, _, num_is Y _ a ma _ h (by omega) ha, num_is Y _ b mb _ e0 (by omega) hb, num_is Y _ k mk _ e1 (by omega) hk, text_is Y _ mx x _ e2 (by omega) hx, text_is Y _ mo o _ e3 (by omega) ho, text_is Y _ mn n _ e4 (by omega) hn, num_is Y _ t mt _ e5 (by omega) ht, num_is Y _ u mu _ e6 (by omega) hu, e7⟩
theorem eight_of (Y : ByteArray) (q q1 q2 q3 q4 q5 q6 q7 q8 : Nat) (e e1 e2 e3 e4 e5 e6 e7 : Int) (a b k t u : Int) (x o n : ByteArray) (ma mb mk mx mo mn mt mu : Int) (hq : q ≤ Y.size)
    (h1 : Rd.num Y q e ma = (a, q1, e1)) (h2 : Rd.num Y q1 e1 mb = (b, q2, e2)) (h3 : Rd.num Y q2 e2 mk = (k, q3, e3)) (h4 : Rd.text Y q3 e3 mx = (x, q4, e4)) (h5 : Rd.text Y q4 e4 mo = (o, q5, e5)) (h6 : Rd.text Y q5 e5 mn = (n, q6, e6)) (h7 : Rd.num Y q6 e6 mt = (t, q7, e7)) (h8 : Rd.num Y q7 e7 mu = (u, q8, 0)) :
    e = 0 ∧ ∃ a' b' k' t' u' : Nat, a = a' ∧ b = b' ∧ k = k' ∧ t = t' ∧ u = u' ∧ Y.data.toList.drop q = put a' ++ (put b' ++ (put k' ++ (put x.size ++ (x.data.toList ++ (put o.size ++ (o.data.toList ++ (put n.size ++ (n.data.toList ++ (put t' ++ (put u' ++ (Y.data.toList.drop q8))))))))))) := by
  have l1 : q1 ≤ Y.size := by have := Rd.num_le Y q e ma hq; rw [h1] at this; exact this
  have l2 : q2 ≤ Y.size := by have := Rd.num_le Y q1 e1 mb l1; rw [h2] at this; exact this
  have l3 : q3 ≤ Y.size := by have := Rd.num_le Y q2 e2 mk l2; rw [h3] at this; exact this
  have l4 : q4 ≤ Y.size := by have := Rd.text_le Y q3 e3 mx l3; rw [h4] at this; exact this
  have l5 : q5 ≤ Y.size := by have := Rd.text_le Y q4 e4 mo l4; rw [h5] at this; exact this
  have l6 : q6 ≤ Y.size := by have := Rd.text_le Y q5 e5 mn l5; rw [h6] at this; exact this
  have l7 : q7 ≤ Y.size := by have := Rd.num_le Y q6 e6 mt l6; rw [h7] at this; exact this
  have l8 : q8 ≤ Y.size := by have := Rd.num_le Y q7 e7 mu l7; rw [h8] at this; exact this
  obtain ⟨z7, u', rfl, _, w7, _⟩ := num_of _ _ _ _ _ _ h8
  subst z7
  obtain ⟨z6, t', rfl, _, w6, _⟩ := num_of _ _ _ _ _ _ h7
  subst z6
  obtain ⟨z5, _, _, w5⟩ := text_of _ _ _ _ _ _ l5 h6
  subst z5
  obtain ⟨z4, _, _, w4⟩ := text_of _ _ _ _ _ _ l4 h5
  subst z4
  obtain ⟨z3, _, _, w3⟩ := text_of _ _ _ _ _ _ l3 h4
  subst z3
  obtain ⟨z2, k', rfl, _, w2, _⟩ := num_of _ _ _ _ _ _ h3
  subst z2
  obtain ⟨z1, b', rfl, _, w1, _⟩ := num_of _ _ _ _ _ _ h2
  subst z1
  obtain ⟨z0, a', rfl, _, w0, _⟩ := num_of _ _ _ _ _ _ h1
  subst z0
  exact ⟨rfl, a', b', k', t', u', rfl, rfl, rfl, rfl, rfl, by rw [w0, w1, w2, w3, w4, w5, w6, w7]⟩
/-- the bytes of a record behind its sign -/
def tailR (a b k : Nat) (x o n : ByteArray) (t u : Nat) : List UInt8 := put a ++ (put b ++ (put k ++ (put x.size ++ (x.data.toList ++ (put o.size ++ (o.data.toList ++ (put n.size ++ (n.data.toList ++ (put t ++ (put u ++ ([])))))))))))
theorem bodyR_list (a b k : Nat) (x o n : ByteArray) (t u : Nat) : (bodyR a b k x o n t u).data.toList = 82 :: tailR a b k x o n t u := by
  unfold bodyR tailR
  simp only [catN, catT]
  simp only [ba_app, ptx_list, pnb]
  simp
theorem rok_nat {a b k : Int} {x o n : ByteArray} {t u : Int} (h : rok a b k x o n t u = true) : ∃ a' b' k' t' u' : Nat, a = a' ∧ b = b' ∧ k = k' ∧ t = t' ∧ u = u' := by
  have h1 := rok_bd h
  exact ⟨a.toNat, b.toNat, k.toNat, t.toNat, u.toNat, by omega, by omega, by omega, by omega, by omega⟩
theorem rec_front {a b k : Int} {x o n : ByteArray} {t u : Int} (h : rok a b k x o n t u = true) : bareB (recS a b k x o n t u) = true ∧ bareT (recS a b k x o n t u) = sealH (bodyR a b k x o n t u) := by
  have hz := bodyR_size h
  refine bare_is _ ?_
  have h1 := ptx_le (sealH (bodyR a b k x o n t u)) 1 (by omega) (by rw [sealH_size]; omega)
  rw [sealH_size] at h1
  omega
theorem rec_size {a b k : Int} {x o n : ByteArray} {t u : Int} (h : rok a b k x o n t u = true) : (recS a b k x o n t u).size = 128 := (bare_of _ (rec_front h).1).2.2
/-- what is read of a record's bytes, by the program's limits -/
theorem rec_reads {a b k : Int} {x o n : ByteArray} {t u : Int} (h : rok a b k x o n t u = true) (Y : ByteArray) (q : Nat) (hY : ∀ a' b' k' t' u' : Nat, a = a' → b = b' → k = k' → t = t' → u = u' → Y.data.toList.drop q = tailR a' b' k' x o n t' u')
    (ma mb mk mx mo mn mt mu : Int) (ha : a ≤ ma) (hb : b ≤ mb) (hk : k ≤ mk) (hx : (x.size : Int) ≤ mx) (ho : (o.size : Int) ≤ mo) (hn : (n.size : Int) ≤ mn) (ht : t ≤ mt) (hu : u ≤ mu)
    (ga : ma ≤ 4294967296) (gb' : mb ≤ 4294967296) (gk' : mk ≤ 4294967296) (gx : mx ≤ 4294967296) (go : mo ≤ 4294967296) (gn' : mn ≤ 4294967296) (gt : mt ≤ 4294967296) (gu : mu ≤ 4294967296) :
    ∃ q1 q2 q3 q4 q5 q6 q7 q8, Rd.num Y q 0 ma = (a, q1, 0) ∧ Rd.num Y q1 0 mb = (b, q2, 0) ∧ Rd.num Y q2 0 mk = (k, q3, 0) ∧ Rd.text Y q3 0 mx = (x, q4, 0) ∧ Rd.text Y q4 0 mo = (o, q5, 0) ∧ Rd.text Y q5 0 mn = (n, q6, 0) ∧ Rd.num Y q6 0 mt = (t, q7, 0) ∧ Rd.num Y q7 0 mu = (u, q8, 0) ∧ Rd.fin Y q8 0 = 0 := by
  obtain ⟨a', b', k', t', u', rfl, rfl, rfl, rfl, rfl⟩ := rok_nat h
  have hl := hY a' b' k' t' u' rfl rfl rfl rfl rfl
  unfold tailR at hl
  obtain ⟨q1, q2, q3, q4, q5, q6, q7, q8, r1, r2, r3, r4, r5, r6, r7, r8, r9⟩ := eight_is Y q a' b' k' t' u' x o n ma mb mk mx mo mn mt mu hl ha ga hb gb' hk gk' hx gx ho go hn gn' ht gt hu gu
  exact ⟨q1, q2, q3, q4, q5, q6, q7, q8, r1, r2, r3, r4, r5, r6, r7, r8, fin_is _ _ r9⟩
theorem bodyR_tail {a b k : Int} {x o n : ByteArray} {t u : Int} (a' b' k' t' u' : Nat) (ha : a = a') (hb : b = b') (hk : k = k') (ht : t = t') (hu : u = u') : (bodyR a b k x o n t u).data.toList.drop 1 = tailR a' b' k' x o n t' u' := by
  subst ha hb hk ht hu
  rw [bodyR_list]; rfl
theorem rec_fix {a b k : Int} {x o n : ByteArray} {t u : Int} (h : rok a b k x o n t u = true) : Rd.fix (bodyR a b k x o n t u) 0 0 1 = (⟨#[82]⟩, 1, 0) := by
  obtain ⟨a', b', k', t', u', rfl, rfl, rfl, rfl, rfl⟩ := rok_nat h
  exact fix_is _ 0 ⟨#[82]⟩ (tailR a' b' k' x o n t' u') (Nat.zero_le _) (by rw [List.drop_zero, bodyR_list]; rfl)
/-- what was read, to its end, of a text behind a sign and ahead of its sum, is a record's sector -/
theorem rec_of (S X : ByteArray) (q0 q1 q2 q3 q4 q5 q6 q7 q8 : Nat) (e0 e1 e2 e3 e4 e5 e6 e7 e8 a b k : Int) (x o n : ByteArray) (t u : Int) (hb : bareB S = true) (hs : sealed (bareT S) = true) (hx : (bareT S).extract 0 ((bareT S).size - 4) = X)
    (hf : Rd.fix X 0 0 1 = (⟨#[82]⟩, q0, e0)) (h1 : Rd.num X q0 e0 4294967295 = (a, q1, e1)) (h2 : Rd.num X q1 e1 4095 = (b, q2, e2)) (h3 : Rd.num X q2 e2 2 = (k, q3, e3)) (h4 : Rd.text X q3 e3 12 = (x, q4, e4)) (h5 : Rd.text X q4 e4 32 = (o, q5, e5)) (h6 : Rd.text X q5 e5 32 = (n, q6, e6)) (h7 : Rd.num X q6 e6 524288 = (t, q7, e7)) (h8 : Rd.num X q7 e7 4294967296 = (u, q8, e8))
    (hfin : Rd.fin X q8 e8 = 0) : S = recS a b k x o n t u := by
  obtain ⟨k8, hend⟩ := fin_of _ _ _ hfin
  subst k8
  have hq : q0 ≤ X.size := by have := Rd.fix_le X 0 0 1 (Nat.zero_le _); rw [hf] at this; exact this
  obtain ⟨k0, a', b', k', t', u', rfl, rfl, rfl, rfl, rfl, hd⟩ := eight_of X q0 q1 q2 q3 q4 q5 q6 q7 q8 _ _ _ _ _ _ _ _ _ _ _ _ _ _ _ _ _ _ _ _ _ _ _ _ hq h1 h2 h3 h4 h5 h6 h7 h8
  subst k0
  obtain ⟨_, _, hq0, hl⟩ := fix_of X 0 0 1 ⟨#[82]⟩ q0 (Nat.zero_le _) hf
  rw [List.drop_zero, hd, hend] at hl
  have hX : X = bodyR a' b' k' x o n t' u' := ba_ext (by rw [hl, bodyR_list]; rfl)
  have ht := seal_of _ hs
  rw [hx, hX] at ht
  rw [(bare_of S hb).1, ht]
  rfl
def IsRec (S : ByteArray) : Prop := ∃ (a b k : Int) (x o n : ByteArray) (t u : Int), rok a b k x o n t u = true ∧ S = recS a b k x o n t u
end Go.Proofs.YtpiafgdbjpfcaaaDoor
