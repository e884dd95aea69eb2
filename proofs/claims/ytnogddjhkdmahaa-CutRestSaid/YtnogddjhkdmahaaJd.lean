/- The contracts of the statements' few and awake, and of the document's First and Ends of layer 18, over this translation. Conditions: at most 1000 keys, each of at most maxLen bytes (the document's: fewer than a million). -/
import Derived.Test.YtnogddjhkdmahaaJc
namespace Go.Proofs.Ytnogddjhkdmahaa
open Go.RowKit Rm Jm

/-- are keys gone through? -/
def FewK (ss : List ByteArray) (len : Nat) (e : Ending) : Prop := ∃ b : Bool, e = .returned (.bool b) ∧ (b = true → len ≤ 200 ∧ (catS ss).length ≤ 5000)
set_option maxHeartbeats 1000000 in
set_option maxRecDepth 100000 in
theorem few18_any (a : Option Addr) (len cap : Nat) (ss : List ByteArray) (w : World) (hsl : StrS w a len ss) (hz : ∀ s ∈ ss, s.size ≤ maxLen) :
    Calls Try.prog 18 #[.slice a len cap] w fun e w' => FewK ss len e ∧ w = w' := by
  by_cases hle : len ≤ 200
  · have HB := Lib.hid (tbytes_any a len cap ss w hsl (by omega) hz)
    have hd : decide ((len : Int) ≤ 200) = true := decide_eq_true (by omega)
    have HL := Lib.hid hle
    clear hsl hz hle
    go_enter Try.func18, Try.ntmps18
    go_wp2_with fail
    refine HB.out.mono ?_
    rintro e w1 ⟨⟨r, rfl, hr⟩, rfl⟩
    have HR := Lib.hid hr
    clear hr HB
    by_cases h5 : r ≤ 5000
    · have hd2 : decide ((r : Int) ≤ 5000) = true := decide_eq_true (by omega)
      have HF := Lib.hid (show FewK ss len (.returned (.bool true)) from ⟨true, rfl, fun _ => ⟨HL.out, by rw [HR.out (by omega)]; exact h5⟩⟩)
      go_wp2_with fail
      go_ret
      exact ⟨HF.out, rfl⟩
    · have hd2 : decide ((r : Int) ≤ 5000) = false := decide_eq_false (by omega)
      have HF := Lib.hid (show FewK ss len (.returned (.bool false)) from ⟨false, rfl, fun h => by cases h⟩)
      go_wp2_with fail
      go_ret
      exact ⟨HF.out, rfl⟩
  · have hd : decide ((len : Int) ≤ 200) = false := decide_eq_false (by omega)
    have HF := Lib.hid (show FewK ss len (.returned (.bool false)) from ⟨false, rfl, fun h => by cases h⟩)
    clear hsl hz hle
    go_enter Try.func18, Try.ntmps18
    go_wp2_with fail
    go_ret
    exact ⟨HF.out, rfl⟩
theorem cat_size (ss : List ByteArray) : ∀ s ∈ ss, s.size ≤ (catS ss).length := by
  intro s hs
  obtain ⟨k, hk, rfl⟩ := List.getElem_of_mem hs
  have := catS_le ss k hk
  omega
theorem abc_str (w : World) : StrS (w.alloc (.cells #[.string ⟨#[97]⟩, .string ⟨#[98]⟩, .string ⟨#[99]⟩] 9)) (some ⟨w.heap.size, 0, none⟩) 3 [⟨#[97]⟩, ⟨#[98]⟩, ⟨#[99]⟩] :=
  ⟨rfl, fun _ => ⟨_, _, rfl, fun k hk => by
    have hk3 : k < 3 := by simpa using hk
    rw [cell_of_row _ _ _ _ _ _ (heap_alloc_new w (.cells #[.string ⟨#[97]⟩, .string ⟨#[98]⟩, .string ⟨#[99]⟩] 9))]
    rcases (show k = 0 ∨ k = 1 ∨ k = 2 by omega) with rfl | rfl | rfl <;> rfl⟩⟩
set_option maxHeartbeats 1000000 in
set_option maxRecDepth 100000 in
theorem awake18 (w : World) : Calls Try.prog 19 #[] w fun e w' => e = .returned (.bool true) ∧ Below w.heap.size w w' := by
  have HE := Lib.hid (cends_any 0 (some ⟨w.heap.size, 0, none⟩) 3 3 [⟨#[97]⟩, ⟨#[98]⟩, ⟨#[99]⟩] _ (abc_str w) (by omega) (by
    intro s hs
    simp at hs
    rcases hs with rfl | rfl | rfl <;> (show (1 : Nat) ≤ maxLen; decide)))
  have HZ := Lib.hid (fun W : World => cends_any 0 none 0 0 [] W ⟨rfl, fun h => by omega⟩ (by omega) (by simp))
  obtain ⟨L, hL⟩ := cuts_last (hitOf 0) [⟨#[97]⟩, ⟨#[98]⟩, ⟨#[99]⟩] (by simp)
  have hlen := cut_len (hitOf 0) [⟨#[97]⟩, ⟨#[98]⟩, ⟨#[99]⟩] 0 0
  have e1 : cutP (hitOf 0) 0 0 [⟨#[97]⟩, ⟨#[98]⟩, ⟨#[99]⟩] = cuts (hitOf 0) [⟨#[97]⟩, ⟨#[98]⟩, ⟨#[99]⟩] := rfl
  rw [e1, hL] at hlen
  rw [hL, natI_snoc] at HE
  have hm : L.length ≤ 2 := by simp at hlen; omega
  clear hL hlen e1
  go_enter Try.func19, Try.ntmps19
  go_wp2_with fail
  refine HE.out.mono ?_
  rintro e w1 ⟨v, rfl, h1, h2⟩
  have H1 := Lib.hid (IS.of_own h1)
  have H2 := Lib.hid (((Below.refl _ w).alloc (Nat.le_refl _) _).trans (h2.mono (by simp)))
  clear h1 h2 HE
  obtain ⟨a, c, hv, hs, -, -⟩ := H1.out
  have hn : (natI L ++ [((List.length [(⟨#[97]⟩ : ByteArray), ⟨#[98]⟩, ⟨#[99]⟩] : Nat) : Int)]).length = L.length + 1 := by simp [natI]
  obtain ⟨b, off, ha, hc⟩ := hs.2 (by omega)
  have c3 := hc L.length (by omega)
  have e3 : (natI L ++ [((List.length [(⟨#[97]⟩ : ByteArray), ⟨#[98]⟩, ⟨#[99]⟩] : Nat) : Int)])[L.length] = 3 := by
    rw [List.getElem_append_right (by simp [natI])]
    simp
  rw [e3] at c3
  rw [hn] at hv
  subst ha hv
  unfold i64v at c3
  have hp : ((L.length + 1 : Nat) : Int) = (L.length : Int) + 1 := by omega
  have HQ := Lib.hid hp
  clear hs hc e3 hn H1 hp
  go_wp2_with fail
  refine (HZ.out w1).mono ?_
  rintro e w2 ⟨v, rfl, h1, h2⟩
  obtain ⟨a, c, hv, -, -, -⟩ := IS.of_own h1
  have hv : v = .slice a 0 c := hv
  have H3 := Lib.hid (H2.out.trans (h2.mono H2.out.size))
  subst hv
  clear h1 h2
  go_wp2_with fail
  go_ret
  exact ⟨rfl, H3.out⟩
set_option maxHeartbeats 1600000 in
set_option maxRecDepth 100000 in
theorem first_any (level : Int) (a : Option Addr) (len cap : Nat) (ss : List ByteArray) (w : World) (hsl : StrS w a len ss) (hle : len ≤ 1000) (hz : ∀ s ∈ ss, s.size < 1000000) :
    Calls Try.prog 30 #[.int .i64 level, .slice a len cap] w fun e w' => e = .returned (.int .i64 (fst (hitOf level) 0 ss : Int)) ∧ Below w.heap.size w w' := by
  have HS := Lib.hid hsl
  have HZ := Lib.hid hz
  have HL := Lib.hid hsl.1
  have hli : (len : Int) ≤ 1000 := by omega
  clear hsl hz hle
  go_enter Try.func30, Try.ntmps30
  go_wp2_with fail
  go_loopw [5] (fun i wr => ∃ k : Nat, i = .int .i64 (k : Int) ∧ k ≤ len ∧ k ≤ 7 ∧ Hid (fst (hitOf level) 0 ss = fst (hitOf level) k (ss.drop k)) ∧ Below w.heap.size w wr) (fun i _ => len - (intOf i).toNat)
  case atStart => exact ⟨0, rfl, Nat.zero_le _, Nat.zero_le _, rfl, Below.refl _ _⟩
  case round =>
    obtain ⟨k, rfl, hk, hk7, HE, hb⟩ := hrel
    have HB := Lib.hid hb
    clear hb
    by_cases hlt : k < len
    · have hkl : k < ss.length := by rw [HL.out]; exact hlt
      have HF := Lib.hid (show fst (hitOf level) 0 ss = if endB (hitOf level) k ss[k] = true then k + 1 else fst (hitOf level) (k + 1) (ss.drop (k + 1)) by rw [HE.out, ← List.getElem_cons_drop hkl, fst])
      obtain ⟨b, off, ha, hcell⟩ := HS.out.2 (by omega)
      subst ha
      have cK := (HB.out.cell (p := ⟨b, off + k, none⟩) (World.block_lt_of_cell? w _ (hcell k hkl))).trans (hcell k hkl)
      have HH := Lib.hid (fun W : World => rhits_any level ss[k] W (HZ.out _ (List.getElem_mem hkl)))
      generalize ss[k] = s at cK HF HH
      clear hcell hkl HE
      by_cases h7 : k = 7
      · have e7 : ((k : Int) == 7) = true := by rw [beq_iff_eq]; omega
        have HR := Lib.hid (show fst (hitOf level) 0 ss = k + 1 by rw [HF.out, if_pos (by rw [h7]; rfl)])
        clear h7 HF
        go_wp2_with fail
        go_ret
        exact ⟨by rw [HR.out]; first | rfl | go_num, HB.out⟩
      · have e7 : ((k : Int) == 7) = false := by rw [beq_eq_false_iff_ne]; omega
        by_cases h1 : 1 ≤ k
        · have e1 : decide ((1 : Int) ≤ (k : Int)) = true := decide_eq_true (by omega)
          have e1' : decide (1 ≤ k) = true := decide_eq_true h1
          cases hh : hitOf level s with
          | true =>
            have HR := Lib.hid (show fst (hitOf level) 0 ss = k + 1 by rw [HF.out, if_pos (by unfold endB; rw [hh]; simp [h1])])
            rw [hh] at HH
            clear hh h7 HF
            go_wp2_with fail
            refine (HH.out _).mono ?_
            rintro e w1 ⟨rfl, hb⟩
            have HB1 := Lib.hid (HB.out.trans (hb.mono HB.out.size))
            clear hb
            go_wp2_with fail
            go_ret
            exact ⟨by rw [HR.out]; first | rfl | go_num, HB1.out⟩
          | false =>
            have HR := Lib.hid (show fst (hitOf level) 0 ss = fst (hitOf level) (k + 1) (ss.drop (k + 1)) by rw [HF.out, if_neg (by unfold endB; rw [hh]; simp [h7])])
            rw [hh] at HH
            have hk2 : k + 1 ≤ 7 := by omega
            clear hh h7 HF
            go_wp2_with fail
            refine (HH.out _).mono ?_
            rintro e w1 ⟨rfl, hb⟩
            have HB1 := Lib.hid (HB.out.trans (hb.mono HB.out.size))
            clear hb
            go_wp2_with fail
            go_roundw
            case rel => exact ⟨k + 1, by go_num, by omega, hk2, HR.out, HB1.out⟩
            case measure => simp [intOf]; omega
        · have e1 : decide ((1 : Int) ≤ (k : Int)) = false := decide_eq_false (by omega)
          have e1' : decide (1 ≤ k) = false := decide_eq_false h1
          have HR := Lib.hid (show fst (hitOf level) 0 ss = fst (hitOf level) (k + 1) (ss.drop (k + 1)) by rw [HF.out, if_neg (by unfold endB; simp [h7, h1])])
          have hk2 : k + 1 ≤ 7 := by omega
          clear h7 HF
          go_wp2_with fail
          go_roundw
          case rel => exact ⟨k + 1, by go_num, by omega, hk2, HR.out, HB.out⟩
          case measure => simp [intOf]; omega
    · have HR := Lib.hid (show fst (hitOf level) 0 ss = len by rw [HE.out, List.drop_of_length_le (by rw [HL.out]; omega), fst]; omega)
      clear HE
      go_wp2_with fail
      go_ret
      exact ⟨by rw [HR.out]; rfl, HB.out⟩
set_option maxHeartbeats 1600000 in
set_option maxRecDepth 100000 in
theorem rends_any (level : Int) (a : Option Addr) (len cap : Nat) (ss : List ByteArray) (w : World) (hsl : StrS w a len ss) (hle : len ≤ 1000) (hcap : len ≤ cap) (hz : ∀ s ∈ ss, s.size < 1000000) :
    Calls Try.prog 20 #[.int .i64 level, .slice a len cap] w (EndR w (natI (cuts (hitOf level) ss))) := by
  have HS := Lib.hid hsl
  have HZ := Lib.hid hz
  have HL := Lib.hid hsl.1
  have HCP := Lib.hid hcap
  have hli : (len : Int) ≤ 1000 := by omega
  clear hsl hz hle hcap
  go_enter Try.func20, Try.ntmps20
  go_wp2_with fail
  go_loopw [5, 6] (fun v i wr => ∃ (k : Nat) (out : List Nat), i = .int .i64 (k : Int) ∧ k ≤ len ∧ Hid (out ++ cutP (hitOf level) 0 k (ss.drop k) = cuts (hitOf level) ss) ∧ OwnI wr w.heap.size v (natI out) ∧ Below w.heap.size w wr) (fun _ i _ => len - (intOf i).toNat)
  case atStart => exact ⟨0, [], rfl, Nat.zero_le _, rfl, Own.nil _ w _, Below.refl _ _⟩
  case round =>
    obtain ⟨k, out, rfl, hk, HE, hr, hb⟩ := hrel
    have HR := Lib.hid hr
    have HB := Lib.hid hb
    clear hr hb
    by_cases hlt : k < len
    · have hne : ss.drop k ≠ [] := by
        intro e
        have := congrArg List.length e
        have := HL.out
        simp at *
        omega
      have hbd := fst_bd (hitOf level) (ss.drop k) 0 (by omega) hne
      have hcf := cut_first (hitOf level) (ss.drop k) 0 k (by omega) hne
      have hF := first_any level (cutU a cap k) (len - k) (cap - k) (ss.drop k) wr ((HS.out.later HB.out).cut cap k (by omega) HCP.out) (by omega) (fun s hs => HZ.out s (List.mem_of_mem_drop hs))
      rw [Nat.sub_zero, List.drop_drop] at hcf
      rw [List.length_drop, HL.out] at hbd
      obtain ⟨f, hf⟩ : ∃ f, f = fst (hitOf level) 0 (ss.drop k) := ⟨_, rfl⟩
      rw [← hf] at hbd hcf hF
      have HF := Lib.hid hF
      have HOL := Lib.hid (out_le HE.out)
      have HE2 := Lib.hid (show (out ++ [k + f]) ++ cutP (hitOf level) 0 (k + f) (ss.drop (k + f)) = cuts (hitOf level) ss by rw [← HE.out, hcf]; simp)
      have hsl := strs_from a len cap k (k : Int) rfl (by omega)
      obtain ⟨hb1, hb2, hb3, -⟩ := hbd
      clear hf hcf hF hne HE
      go_wp2_with fail
      refine HF.out.mono ?_
      rintro e w1 ⟨rfl, hb⟩
      have HB1 := Lib.hid (HB.out.trans (hb.mono HB.out.size))
      have E3 := Lib.hid (show OwnI w1 w.heap.size _ (natI out) from HR.out.kept hb)
      have hs3 : w.heap.size ≤ w1.heap.size := HB1.out.size
      clear hb HR hsl
      go_wp2_with (at_builtin; refine wpList_appV rfl (.tmp 18) (.tmp 20) 37 3 (.int .i64 0) 8 rfl Try.underlying37 info_i8 rfl (by omega) w.heap.size w (HB1.out.alloc HB1.out.size _) ?c1 _ ((natI out).map i64v) rfl (E3.out.alloc _) ⟨w1.heap.size, 0, none⟩ 1 1 [.int .i64 ((k : Int) + (f : Int))] rfl rfl (Lay.new w1 _ _) ?c2 ?c3 ?_)
      case c1 => simp; omega
      case c2 => first | rfl | (intro u hu; simp at hu; subst hu; rfl)
      case c3 => have := HOL.out; have := HL.out; simp [natI]; omega
      intro v2 w2 HO2 HB2 HZ2
      go_wp2_with fail
      go_roundw
      case rel => exact ⟨k + f, out ++ [k + f], by go_num, by omega, HE2.out, by rw [natI_snoc]; unfold OwnI; rw [List.map_append]; exact HO2.out, HB2.out⟩
      case measure => simp [intOf]; omega
    · have HF := Lib.hid (show natI out = natI (cuts (hitOf level) ss) by
        rw [← HE.out, List.drop_of_length_le (by rw [HL.out]; omega)]
        simp [cutP])
      clear HE
      go_wp2_with fail
      go_ret
      exact ⟨_, rfl, by rw [← HF.out]; exact HR.out, HB.out⟩
end Go.Proofs.Ytnogddjhkdmahaa
