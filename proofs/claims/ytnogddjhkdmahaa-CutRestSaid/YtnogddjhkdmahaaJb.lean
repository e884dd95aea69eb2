/- The contracts of cut.ends, Ends, Sizes, Same and of slices.Contains of ints over this translation. Conditions: at most 1000 keys, each of at most maxLen bytes. -/
import Derived.Test.YtnogddjhkdmahaaJa
namespace Go.Proofs.Ytnogddjhkdmahaa
open Go.RowKit Rm Jm

def natI (l : List Nat) : List Int := l.map fun (x : Nat) => (x : Int)
theorem natI_snoc (l : List Nat) (x : Nat) : natI (l ++ [x]) = natI l ++ [(x : Int)] := by simp [natI]
theorem natI_len (l : List Nat) : (natI l).length = l.length := by simp [natI]
/-- what ends answers -/
def EndsR (w : World) (B N : Nat) (xs : List Int) (e : Ending) (w' : World) : Prop := ∃ v, e = .returned v ∧ OwnI w' N v xs ∧ OnB B w w'
theorem cut_one {h : ByteArray → Bool} {ss : List ByteArray} {k n : Nat} (hk : k < ss.length) {out : List Nat} (he : out ++ cutP h n k (ss.drop k) = cuts h ss) (hy : endB h n ss[k] = true ∨ k + 1 = ss.length) :
    (out ++ [k + 1]) ++ cutP h (nxt h n ss[k]) (k + 1) (ss.drop (k + 1)) = cuts h ss := by
  rw [← he, ← List.getElem_cons_drop hk, cutP, if_pos]
  · simp
  · rcases hy with hy | hy
    · rw [hy]; rfl
    · rw [List.drop_of_length_le (by omega)]; simp
theorem cut_two {h : ByteArray → Bool} {ss : List ByteArray} {k n : Nat} (hk : k < ss.length) {out : List Nat} (he : out ++ cutP h n k (ss.drop k) = cuts h ss) (hy : endB h n ss[k] = false) (hl : ¬ k + 1 = ss.length) :
    out ++ cutP h (nxt h n ss[k]) (k + 1) (ss.drop (k + 1)) = cuts h ss := by
  rw [← he, ← List.getElem_cons_drop hk, cutP, if_neg]
  have : (ss.drop (k + 1)).isEmpty = false := by
    rw [List.isEmpty_eq_false_iff]
    intro e
    have := congrArg List.length e
    simp at this
    omega
  rw [hy, this]
  simp
theorem out_le {h : ByteArray → Bool} {ss : List ByteArray} {r out : List Nat} (he : out ++ r = cuts h ss) : out.length ≤ ss.length := by
  have h1 := congrArg List.length he
  have h2 := cut_len h ss 0 0
  unfold cuts at h1
  rw [List.length_append] at h1
  omega
theorem OnB.cellOf {B : Nat} {w w' : World} (h : OnB B w w') {b i : Nat} {u : Value} (hc : w.cell? ⟨b, i, none⟩ = some u) (hne : b ≠ B) : w'.cell? ⟨b, i, none⟩ = some u := by
  have hl := World.block_lt_of_cell? w _ hc
  have hb := h.block b hl (fun e => hne (by first | exact Option.some.inj e | exact (Option.some.inj e).symm))
  rw [← hc]
  unfold World.cell?
  first | rw [hb] | simp only [hb]
theorem OnB.thenBelow {B N : Nat} {w w1 w2 : World} (h : OnB B w w1) (k : Below N w1 w2) (hN : w.heap.size ≤ N) : OnB B w w2 :=
  ⟨k.os.trans h.os, k.tape.trans h.tape, k.output.trans h.output, Nat.le_trans h.size k.size, fun i hi hne => (k.block i (by omega)).trans (h.block i hi hne)⟩
theorem OwnI.on {B N : Nat} {w w' : World} {v : Value} {xs : List Int} (h : OwnI w N v xs) (k : OnB B w w') (hB : B < N) : OwnI w' N v xs := by
  rcases h with ⟨_, h | ⟨g, cap, cur, h2, h3, h4, h5⟩⟩
  · exact ⟨by simp, .inl h⟩
  · refine ⟨by simp, .inr ⟨g, cap, cur, h2, h3, ?_, h5⟩⟩
    rw [k.block g (blk_lt h4) (fun e => by
      have : g = B := by first | exact Option.some.inj e | exact (Option.some.inj e).symm
      omega)]
    exact h4
set_option maxRecDepth 100000 in
set_option maxHeartbeats 2000000 in
theorem ends_any (B : Nat) (level : Int) (a : Option Addr) (len cap : Nat) (ss : List ByteArray) (w : World) (hC : CC w B true level 0) (hsl : StrS w a len ss) (hne : ∀ b off, a = some ⟨b, off, none⟩ → 0 < len → b ≠ B) (hle : len ≤ 1000) (hz : ∀ s ∈ ss, s.size ≤ maxLen) :
    Calls Try.prog 31 #[.slice a len cap, .func (.func 26) #[.pointer (some ⟨B, 0, none⟩)] #[]] w (EndsR w B w.heap.size (natI (cuts (hitOf level) ss))) := by
  have HC := Lib.hid hC
  have HS := Lib.hid hsl
  have HN := Lib.hid hne
  have HZ := Lib.hid hz
  have HL := Lib.hid hsl.1
  have HLE := Lib.hid hle
  have hli : (len : Int) ≤ 1000 := by omega
  clear hC hsl hne hz hle
  go_enter Try.func31, Try.ntmps31
  go_wp2_with fail
  go_loopw [5, 10] (fun v i wr => ∃ (k n : Nat) (out : List Nat), i = .int .i64 (k : Int) ∧ k ≤ len ∧ n ≤ 7 ∧ CC wr B true level n ∧ OnB B w wr ∧ OwnI wr w.heap.size v (natI out) ∧ Hid (out ++ cutP (hitOf level) n k (ss.drop k) = cuts (hitOf level) ss)) (fun _ i _ => len - (intOf i).toNat)
  case atStart => exact ⟨0, 0, [], rfl, Nat.zero_le _, Nat.zero_le _, HC.out, OnB.refl B w, Own.nil _ w _, rfl⟩
  case round =>
    obtain ⟨k, n, out, rfl, hk, hn, hc, ho, hr, HE⟩ := hrel
    have HCK := Lib.hid hc
    have HO := Lib.hid ho
    have HR := Lib.hid hr
    clear hc ho hr
    by_cases hlt : k < len
    · have hkl : k < ss.length := by rw [HL.out]; exact hlt
      obtain ⟨b, off, ha, hcell⟩ := HS.out.2 (by omega)
      subst ha
      have cK := HO.out.cellOf (hcell k hkl) (HN.out b off rfl (by omega))
      have HNX := Lib.hid (cnext_any B level n ss[k] _ HCK.out hn (HZ.out _ (List.getElem_mem hkl)))
      have HK1 := Lib.hid (fun h => cut_one hkl HE.out h)
      have HK2 := Lib.hid (fun h => cut_two hkl HE.out h)
      have HN7 := Lib.hid (nxt_le (hitOf level) n ss[k] hn)
      have HOL := Lib.hid (out_le HE.out)
      unfold NextR at HNX
      generalize ss[k] = s at cK HNX HK1 HK2 HN7
      obtain ⟨n2, hn2⟩ : ∃ n2, n2 = nxt (hitOf level) n s := ⟨_, rfl⟩
      rw [← hn2] at HNX HK1 HK2 HN7
      cases hy : endB (hitOf level) n s with
      | true =>
        rw [hy] at HNX HK1
        have HEE := Lib.hid (HK1.out (.inl rfl))
        clear hy hn2 hcell hkl HK1 HK2 HE HCK
        go_wp2_with fail
        refine HNX.out.mono ?_
        rintro e w1 ⟨rfl, h1, h2⟩
        have hs1 := HO.out.size
        have hs2 := h2.size
        have hs3 : w.heap.size ≤ w1.heap.size := by omega
        have E1 := Lib.hid h1
        have E2 := Lib.hid (HO.out.trans h2)
        have E3 := Lib.hid (HR.out.on h2 HC.out.lt)
        clear h1 h2 hs1 hs2 HNX HR
        go_wp2_with (at_builtin; refine wpList_appV rfl (.tmp 25) (.tmp 28) 37 3 (.int .i64 0) 8 rfl Try.underlying37 info_i8 rfl (by omega) w.heap.size w1 ((Below.refl _ w1).alloc hs3 _) ?c1 _ ((natI out).map i64v) rfl (E3.out.alloc _) ⟨w1.heap.size, 0, none⟩ 1 1 [.int .i64 ((k : Int) + 1)] rfl rfl (Lay.new w1 _ _) ?c2 ?c3 ?_)
        case c1 => simp; omega
        case c2 => first | rfl | (intro u hu; simp at hu; subst hu; rfl)
        case c3 => have := HOL.out; have := HLE.out; have := HL.out; simp [natI]; omega
        intro v2 w2 HO2 HB2 HZ2
        go_wp2_with fail
        go_roundw
        case rel => exact ⟨k + 1, n2, out ++ [k + 1], by go_num, by omega, HN7.out, E1.out.kept (HB2.out.block B HC.out.lt), E2.out.thenBelow HB2.out (Nat.le_refl _), by rw [natI_snoc]; unfold OwnI; rw [List.map_append]; exact HO2.out, HEE.out⟩
        case measure => simp [intOf]; omega
      | false =>
        rw [hy] at HNX HK2
        by_cases hlast : k + 1 = len
        · have ht : ((k : Int) == (len : Int) - 1) = true := by rw [beq_iff_eq]; omega
          have HEE := Lib.hid (HK1.out (.inr (by rw [HL.out]; exact hlast)))
          clear hy hn2 hcell hkl HK1 HK2 HE HCK hlast
          go_wp2_with fail
          refine HNX.out.mono ?_
          rintro e w1 ⟨rfl, h1, h2⟩
          have hs1 := HO.out.size
          have hs2 := h2.size
          have hs3 : w.heap.size ≤ w1.heap.size := by omega
          have E1 := Lib.hid h1
          have E2 := Lib.hid (HO.out.trans h2)
          have E3 := Lib.hid (HR.out.on h2 HC.out.lt)
          clear h1 h2 hs1 hs2 HNX HR
          go_wp2_with (at_builtin; refine wpList_appV rfl (.tmp 25) (.tmp 28) 37 3 (.int .i64 0) 8 rfl Try.underlying37 info_i8 rfl (by omega) w.heap.size w1 ((Below.refl _ w1).alloc hs3 _) ?c1 _ ((natI out).map i64v) rfl (E3.out.alloc _) ⟨w1.heap.size, 0, none⟩ 1 1 [.int .i64 ((k : Int) + 1)] rfl rfl (Lay.new w1 _ _) ?c2 ?c3 ?_)
          case c1 => simp; omega
          case c2 => first | rfl | (intro u hu; simp at hu; subst hu; rfl)
          case c3 => have := HOL.out; have := HLE.out; have := HL.out; simp [natI]; omega
          intro v2 w2 HO2 HB2 HZ2
          go_wp2_with fail
          go_roundw
          case rel => exact ⟨k + 1, n2, out ++ [k + 1], by go_num, by omega, HN7.out, E1.out.kept (HB2.out.block B HC.out.lt), E2.out.thenBelow HB2.out (Nat.le_refl _), by rw [natI_snoc]; unfold OwnI; rw [List.map_append]; exact HO2.out, HEE.out⟩
          case measure => simp [intOf]; omega
        · have ht : ((k : Int) == (len : Int) - 1) = false := by rw [beq_eq_false_iff_ne]; omega
          have HEE := Lib.hid (HK2.out rfl (by rw [HL.out]; exact hlast))
          clear hy hn2 hcell hkl HK1 HK2 HE HCK hlast
          go_wp2_with fail
          refine HNX.out.mono ?_
          rintro e w1 ⟨rfl, h1, h2⟩
          have hs1 := HO.out.size
          have hs2 := h2.size
          have hs3 : w.heap.size ≤ w1.heap.size := by omega
          have E1 := Lib.hid h1
          have E2 := Lib.hid (HO.out.trans h2)
          have E3 := Lib.hid (HR.out.on h2 HC.out.lt)
          clear h1 h2 hs1 hs2 HNX HR
          go_wp2_with fail
          go_roundw
          case rel => exact ⟨k + 1, n2, out, by go_num, by omega, HN7.out, E1.out, E2.out, E3.out, HEE.out⟩
          case measure => simp [intOf]; omega
    · have HF := Lib.hid (show natI out = natI (cuts (hitOf level) ss) by
        rw [← HE.out, List.drop_of_length_le (by rw [HL.out]; omega)]
        simp [cutP])
      clear HE
      go_wp2_with fail
      go_ret
      exact ⟨_, rfl, by rw [← HF.out]; exact HR.out, HO.out⟩
/-- what Ends answers -/
def EndR (w : World) (xs : List Int) (e : Ending) (w' : World) : Prop := ∃ v, e = .returned v ∧ OwnI w' w.heap.size v xs ∧ Below w.heap.size w w'
set_option maxRecDepth 100000 in
set_option maxHeartbeats 1000000 in
theorem cends_any (level : Int) (a : Option Addr) (len cap : Nat) (ss : List ByteArray) (w : World) (hsl : StrS w a len ss) (hle : len ≤ 1000) (hz : ∀ s ∈ ss, s.size ≤ maxLen) :
    Calls Try.prog 22 #[.int .i64 level, .slice a len cap] w (EndR w (natI (cuts (hitOf level) ss))) := by
  have HS := Lib.hid hsl
  have HZ := Lib.hid hz
  have HLE := Lib.hid hle
  clear hsl hz hle
  go_enter Try.func22, Try.ntmps22
  go_wp2_with fail
  refine (cnew_any level w).mono ?_
  rintro e w1 ⟨rfl, h1, h2, h3⟩
  have HE := Lib.hid (ends_any w.heap.size level a len cap ss w1 h1 (HS.out.later h2) (fun b off ha hp => by
    obtain ⟨b1, o1, ha1, hc⟩ := HS.out.2 hp
    rw [ha] at ha1
    injection ha1 with ha1
    injection ha1 with hb _ _
    have := World.block_lt_of_cell? w _ (hc 0 (by have := HS.out.1; omega))
    simp at this
    omega) HLE.out HZ.out)
  have H2 := Lib.hid h2
  have H3 := Lib.hid h3
  clear h1 h2 h3
  go_wp2_with fail
  refine HE.out.mono ?_
  rintro e w2 ⟨v, rfl, h1, h2⟩
  have E1 := Lib.hid h1
  have E2 := Lib.hid h2
  clear h1 h2 HE
  go_wp2_with fail
  go_ret
  refine ⟨_, rfl, ?_, OnB.below H2.out E2.out (Nat.le_refl _) H2.out.size⟩
  have h := E1.out
  have hN := H3.out
  rcases h with ⟨hs, h | ⟨g, cap, cur, g2, g3, g4, g5⟩⟩
  · exact ⟨by have := E2.out.size; have := H2.out.size; omega, .inl h⟩
  · exact ⟨by have := E2.out.size; have := H2.out.size; omega, .inr ⟨g, cap, cur, g2, by omega, g4, g5⟩⟩
end Go.Proofs.Ytnogddjhkdmahaa
