/- The contracts of cut.Sizes, Same, of slices.Contains of ints, of the statements' few and awake, and of the document's First and Ends of layer 18, over this translation. Conditions: at most 1000 keys, each of at most maxLen bytes (the document's: fewer than a million). -/
import Derived.Test.YtnogddjhkdmahaaJb
namespace Go.Proofs.Ytnogddjhkdmahaa
open Go.RowKit Rm Jm

theorem set_mid (p : List Int) (x u : Int) (r : List Int) : (p ++ x :: r).set p.length u = (p ++ [u]) ++ r := by
  rw [List.set_append_right _ _ (Nat.le_refl _), Nat.sub_self]
  simp
set_option maxRecDepth 100000 in
set_option maxHeartbeats 2000000 in
theorem csizes_any (level : Int) (a : Option Addr) (len cap : Nat) (ss : List ByteArray) (w : World) (hsl : StrS w a len ss) (hle : len ≤ 1000) (hz : ∀ s ∈ ss, s.size ≤ maxLen) :
    Calls Try.prog 23 #[.int .i64 level, .slice a len cap] w (EndR w (sizes 0 (cuts (hitOf level) ss))) := by
  have HE := Lib.hid (cends_any level a len cap ss w hsl hle hz)
  have HB := Lib.hid (fun x hx => cut_le (hitOf level) ss 0 0 x hx)
  have HL := Lib.hid (cut_len (hitOf level) ss 0 0)
  have HLE := Lib.hid (show ss.length ≤ 1000 by rw [hsl.1]; exact hle)
  clear hsl hle hz
  have e1 : cutP (hitOf level) 0 0 ss = cuts (hitOf level) ss := rfl
  rw [e1] at HB HL
  clear e1
  generalize cuts (hitOf level) ss = L at HE HB HL ⊢
  go_enter Try.func23, Try.ntmps23
  go_wp2_with fail
  refine HE.out.mono ?_
  rintro e w1 ⟨v, rfl, h1, h2⟩
  have H1 := Lib.hid h1
  have H2 := Lib.hid h2
  clear HE
  obtain ⟨av, c, hv, -, -, -⟩ := IS.of_own h1
  rw [natI_len] at hv
  subst hv
  clear h1 h2
  have hLi : (L.length : Int) ≤ 1000 := by have := HL.out; have := HLE.out; omega
  go_wp2_with fail
  go_loopw [6, 14] (fun b i wr => ∃ (pre : List Int) (rest : List Nat) (was : Nat), b = .int .i64 (was : Int) ∧ i = .int .i64 (pre.length : Int) ∧ pre.length + rest.length = L.length ∧ was ≤ 1000 ∧ Hid (pre ++ sizes was rest = sizes 0 L) ∧ Hid (∀ x ∈ rest, x ≤ 1000) ∧ OwnI wr w.heap.size (.slice av L.length c) (pre ++ natI rest) ∧ Below w.heap.size w wr) (fun _ i _ => L.length - (intOf i).toNat)
  case atStart => exact ⟨[], L, 0, rfl, rfl, by simp, by omega, rfl, fun x hx => by have := HB.out x hx; have := HLE.out; omega, H1.out, H2.out⟩
  case round =>
    obtain ⟨pre, rest, was, rfl, rfl, hlen, hwas, HP, HX, hr, hb⟩ := hrel
    have HR := Lib.hid hr
    have HBW := Lib.hid hb
    clear hr hb
    cases rest with
    | cons e rest =>
      obtain ⟨n, hn⟩ : ∃ n, n = pre.length := ⟨_, rfl⟩
      have hln : n < L.length := by rw [List.length_cons] at hlen; omega
      have hpos : n < (pre ++ natI (e :: rest)).length := by simp [natI, hn]
      obtain ⟨g, cp, hv, hg, -, -, hcell, hfree, hset⟩ := HR.out.row (by omega)
      injection hv with hav hl2 hc2
      subst hav
      clear hl2 hc2
      have hc := hcell n hpos
      have hf := hfree n
      have hat : (pre ++ natI (e :: rest))[n] = (e : Int) := by
        rw [List.getElem_append_right (by omega)]
        simp [natI, hn]
      rw [hat] at hc
      have hs := hset n ((e : Int) - (was : Int)) hpos
      have e2 : (pre ++ natI (e :: rest)).set n ((e : Int) - (was : Int)) = (pre ++ [(e : Int) - (was : Int)]) ++ natI rest := by rw [hn]; exact set_mid pre (e : Int) _ (natI rest)
      rw [e2] at hs
      have HS := Lib.hid hs
      have he : e ≤ 1000 := HX.out e (by simp)
      have HX2 := Lib.hid (fun x hx => HX.out x (List.mem_cons_of_mem e hx))
      have HP2 := Lib.hid (show (pre ++ [(e : Int) - (was : Int)]) ++ sizes e rest = sizes 0 L by rw [← HP.out]; simp [sizes])
      have HPL := Lib.hid (show (pre ++ [(e : Int) - (was : Int)]).length = n + 1 by simp [hn])
      have HN := Lib.hid hn
      have HLL := Lib.hid hlen
      unfold i64v at hc
      rw [← hn]
      clear hs e2 hat hcell hfree hset hpos HX HP hn hlen
      go_wp2_with fail
      go_roundw
      case rel => exact ⟨_, rest, e, rfl, by rw [HPL.out]; go_num, by rw [HPL.out]; have := HLL.out; rw [List.length_cons] at this; have := HN.out; omega, he, HP2.out, HX2.out, HS.out, HBW.out.setCell hg _⟩
      case measure => simp [intOf]; omega
    | nil =>
      have hn : (pre.length : Int) = (L.length : Int) := by simp at hlen; omega
      have HF := Lib.hid (show pre ++ natI [] = sizes 0 L by rw [← HP.out]; rfl)
      clear HP HX hlen
      go_wp2_with fail
      go_ret
      exact ⟨_, rfl, by rw [← HF.out]; exact HR.out, HBW.out⟩
/-- what Index answers -/
def IdxR (xs : List Int) (x : Int) (e : Ending) : Prop := ∃ r : Int, e = .returned (.int .i64 r) ∧ decide (0 ≤ r) = xs.contains x
theorem idxR_no (xs : List Int) (x : Int) (h : ∀ k (_ : k < xs.length), x ≠ xs[k]) : IdxR xs x (.returned (.int .i64 (-1))) := ⟨-1, rfl, by
  have : xs.contains x = false := by
    rw [List.contains_eq_mem, decide_eq_false_iff_not]
    intro hm
    obtain ⟨k, hk, e⟩ := List.getElem_of_mem hm
    exact h k hk e.symm
  rw [this]; rfl⟩
theorem idxR_yes (xs : List Int) (x : Int) (k : Nat) (hk : k < xs.length) (h : x = xs[k]) : IdxR xs x (.returned (.int .i64 (k : Int))) := ⟨k, rfl, by
  have : xs.contains x = true := by
    rw [List.contains_eq_mem, decide_eq_true_iff, h]
    exact List.getElem_mem hk
  rw [this, decide_eq_true_iff]; omega⟩
set_option maxRecDepth 100000 in
set_option maxHeartbeats 1000000 in
theorem index_any (v : Value) (xs : List Int) (x : Int) (w : World) (hv : IS w v xs) :
    Calls Try.prog 33 #[v, .int .i64 x] w fun e w' => IdxR xs x e ∧ w = w' := by
  obtain ⟨a, c, rfl, hs, h1, h2⟩ := hv
  have HS := Lib.hid hs.2
  have hl : xs.length ≤ 9223372036854775807 := by unfold maxLen at h2; omega
  clear hs h1 h2
  go_enter Try.func33, Try.ntmps33
  go_wp2_with fail
  go_loop [8] (fun i => ∃ k : Nat, k ≤ xs.length ∧ i = .int .i64 (k : Int) ∧ Hid (∀ j (_ : j < xs.length), j < k → x ≠ xs[j])) (fun i => xs.length - (intOf i).toNat)
  case atStart => exact ⟨0, Nat.zero_le _, rfl, fun j _ h => by omega⟩
  case round =>
    obtain ⟨k, hk, rfl, HN⟩ := hrel
    by_cases hlt : k < xs.length
    · obtain ⟨b, off, rfl, hcell⟩ := HS.out (by omega)
      have hc := hcell k hlt
      unfold i64v at hc
      by_cases he : x = xs[k]
      · have hq : (x == xs[k]) = true := by rw [beq_iff_eq]; exact he
        have HF := Lib.hid (idxR_yes xs x k hlt he)
        generalize xs[k] = y at hc hq
        clear he hcell HN
        go_wp2_with fail
        go_ret
        exact ⟨HF.out, rfl⟩
      · have hq : (x == xs[k]) = false := by rw [beq_eq_false_iff_ne]; exact he
        have HN2 := Lib.hid (show ∀ j (_ : j < xs.length), j < k + 1 → x ≠ xs[j] from fun j hj h => by
          rcases Nat.lt_or_ge j k with g | g
          · exact HN.out j hj g
          · obtain rfl : j = k := by omega
            exact he)
        generalize xs[k] = y at hc hq
        clear he hcell HN
        go_wp2_with fail
        go_round
        case rel => exact ⟨k + 1, by omega, by go_num, HN2.out⟩
        case measure => simp [intOf]; omega
    · have HF := Lib.hid (idxR_no xs x (fun j hj => HN.out j hj (by omega)))
      clear HN
      go_wp2_with fail
      go_ret
      exact ⟨HF.out, rfl⟩
theorem contains_any (v : Value) (xs : List Int) (x : Int) (w : World) (hv : IS w v xs) :
    Calls Try.prog 32 #[v, .int .i64 x] w fun e w' => e = .returned (.bool (xs.contains x)) ∧ w = w' := by
  have HI := Lib.hid (index_any v xs x w hv)
  clear hv
  go_enter Try.func32, Try.ntmps32
  go_wp2_with fail
  refine HI.out.mono ?_
  rintro e w1 ⟨⟨r, rfl, hr⟩, rfl⟩
  have HR := Lib.hid hr
  clear hr
  go_wp2_with fail
  go_ret
  exact ⟨by rw [← HR.out]; rfl, rfl⟩
/-- is it 0, or one of these? -/
def isAt (at_ : Int) (xs : List Int) : Bool := at_ == 0 || xs.contains at_
set_option maxRecDepth 100000 in
set_option maxHeartbeats 1000000 in
theorem csame_any (level at_ : Int) (a : Option Addr) (len cap : Nat) (ss : List ByteArray) (w : World) (hsl : StrS w a len ss) (hle : len ≤ 1000) (hz : ∀ s ∈ ss, s.size ≤ maxLen) :
    Calls Try.prog 24 #[.int .i64 level, .int .i64 at_, .slice a len cap] w fun e w' => e = .returned (.bool (isAt at_ (natI (cuts (hitOf level) ss)))) ∧ Below w.heap.size w w' := by
  have HE := Lib.hid (cends_any level a len cap ss w hsl hle hz)
  clear hsl hle hz
  by_cases h0 : at_ = 0
  · have hq : (at_ == 0) = true := by rw [beq_iff_eq]; exact h0
    have HF := Lib.hid (show isAt at_ (natI (cuts (hitOf level) ss)) = true by unfold isAt; rw [hq]; rfl)
    clear h0 HE
    go_enter Try.func24, Try.ntmps24
    go_wp2_with fail
    go_ret
    exact ⟨by rw [HF.out]; rfl, Below.refl _ _⟩
  · have hq : (at_ == 0) = false := by rw [beq_eq_false_iff_ne]; exact h0
    have HF := Lib.hid (show isAt at_ (natI (cuts (hitOf level) ss)) = decide (at_ ∈ natI (cuts (hitOf level) ss)) by unfold isAt; rw [hq, List.contains_eq_mem]; rfl)
    clear h0
    go_enter Try.func24, Try.ntmps24
    go_wp2_with fail
    refine HE.out.mono ?_
    rintro e w1 ⟨v, rfl, h1, h2⟩
    have H1 := Lib.hid (IS.of_own h1)
    have H2 := Lib.hid h2
    clear h1 h2 HE
    go_wp2_with fail
    refine (contains_any v _ at_ w1 H1.out).mono ?_
    rintro e w2 ⟨rfl, rfl⟩
    go_wp2_with fail
    go_ret
    exact ⟨by rw [HF.out]; rfl, H2.out⟩
end Go.Proofs.Ytnogddjhkdmahaa
