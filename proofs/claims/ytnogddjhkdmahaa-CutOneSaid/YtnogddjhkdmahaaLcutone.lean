/- CutOne: whatever keys come one by one, each ends its chunk just where the document says. No condition. -/
import Derived.Test.YtnogddjhkdmahaaRows
import Derived.Test.YtnogddjhkdmahaaJd
namespace Go.Proofs.Ytnogddjhkdmahaa.LCutOne
open Go.RowKit Rm Jm

set_option maxRecDepth 100000 in
set_option maxHeartbeats 2000000 in
theorem walk (level : Int) (a : Option Addr) (len cap : Nat) (ss : List ByteArray) (w : World) (hsl : StrS w a len ss) (hz : ∀ s ∈ ss, s.size ≤ maxLen) :
    Calls Try.prog 7 #[.int .i64 level, .slice a len cap] w fun e w' => e = .returned (.bool true) ∧ Below w.heap.size w w' := by
  have HFW := Lib.hid (few18_any a len cap ss w hsl hz)
  have HS := Lib.hid hsl
  have HL := Lib.hid hsl.1
  clear hsl hz
  go_enter Try.func7, Try.ntmps7
  go_wp2_with fail
  refine HFW.out.mono ?_
  rintro e w1 ⟨⟨b, rfl, hf⟩, rfl⟩
  cases b with
  | false =>
    clear hf HFW
    go_wp2_with fail
    refine (awake18 _).mono ?_
    rintro e w1 ⟨rfl, hb⟩
    have HB := Lib.hid hb
    clear hb
    go_wp2_with fail
    go_ret
    exact ⟨rfl, HB.out⟩
  | true =>
    obtain ⟨hle, hcat⟩ := hf rfl
    have HZ := Lib.hid (fun s hs => Nat.le_trans (cat_size ss s hs) hcat)
    have hli : (len : Int) ≤ 200 := by omega
    clear hf HFW hcat hle
    go_wp2_with fail
    refine (cnew_any level w).mono ?_
    rintro e w1 ⟨rfl, h1, h2, h3⟩
    have HC := Lib.hid h1
    have HB1 := Lib.hid h2
    have HX1 := Lib.hid h3
    clear h1 h2 h3
    go_wp2_with fail
    go_loopw [6, 18] (fun m i wr => ∃ (k n : Nat), m = .int .i64 (n : Int) ∧ i = .int .i64 (k : Int) ∧ k ≤ len ∧ n ≤ 7 ∧ CC wr w.heap.size true level n ∧ Below w.heap.size w wr) (fun _ i _ => len - (intOf i).toNat)
    case atStart => exact ⟨0, 0, rfl, rfl, Nat.zero_le _, Nat.zero_le _, HC.out, HB1.out⟩
    case round =>
      obtain ⟨k, n, rfl, rfl, hk, hn, hc, hb⟩ := hrel
      have HCC := Lib.hid hc
      have HB := Lib.hid hb
      clear hc hb
      by_cases hlt : k < len
      · have hkl : k < ss.length := by rw [HL.out]; exact hlt
        obtain ⟨b, off, ha, hcell⟩ := HS.out.2 (by omega)
        subst ha
        have cK := (HB.out.cell (p := ⟨b, off + k, none⟩) (World.block_lt_of_cell? w _ (hcell k hkl))).trans (hcell k hkl)
        have HH := Lib.hid (fun W : World => rhits_any level ss[k] W (by have := HZ.out _ (List.getElem_mem hkl); omega))
        have HNX := Lib.hid (fun (W : World) (h : CC W w.heap.size true level n) => cnext_any w.heap.size level n ss[k] W h hn (by have := HZ.out _ (List.getElem_mem hkl); unfold maxLen; omega))
        have HN7 := Lib.hid (nxt_le (hitOf level) n ss[k] hn)
        unfold NextR at HNX
        generalize ss[k] = s at cK HH HNX HN7
        clear hcell hkl
        by_cases h7 : n = 7
        · have e1 : (((n : Int) + 1) == 8) = true := by rw [beq_iff_eq]; omega
          have e2 : endB (hitOf level) n s = true := by rw [h7]; rfl
          have e3 : nxt (hitOf level) n s = 0 := by unfold nxt; rw [if_pos e2]
          rw [e2, e3] at HNX
          clear h7 e2 e3 HH HN7
          go_wp2_with fail
          refine (HNX.out _ HCC.out).mono ?_
          rintro e w2 ⟨rfl, h1, h2⟩
          have HC2 := Lib.hid h1
          have HB2 := Lib.hid (OnB.below HB.out h2 (Nat.le_refl _) HB.out.size)
          clear h1 h2 HNX
          go_wp2_with fail
          refine (csize_any _ _ _ _ _ HC2.out).mono ?_
          rintro e w3 ⟨rfl, rfl⟩
          go_wp2_with fail
          go_roundw
          case rel => exact ⟨k + 1, 0, rfl, by go_num, by omega, by omega, HC2.out, HB2.out⟩
          case measure => simp [intOf]; omega
        · have e1 : (((n : Int) + 1) == 8) = false := by rw [beq_eq_false_iff_ne]; omega
          by_cases h1 : 1 ≤ n
          · have e4 : decide ((2 : Int) ≤ (n : Int) + 1) = true := decide_eq_true (by omega)
            cases hh : hitOf level s with
            | true =>
              have e2 : endB (hitOf level) n s = true := by unfold endB; rw [hh]; simp [h1]
              have e3 : nxt (hitOf level) n s = 0 := by unfold nxt; rw [if_pos e2]
              rw [e2, e3] at HNX
              rw [hh] at HH
              clear h7 h1 e2 e3 HN7 hh
              go_wp2_with fail
              refine (HH.out _).mono ?_
              rintro e w2 ⟨rfl, hb⟩
              have HC1 := Lib.hid (HCC.out.later hb)
              have HB1 := Lib.hid (HB.out.trans (hb.mono HB.out.size))
              clear hb HH
              go_wp2_with fail
              refine (HNX.out _ HC1.out).mono ?_
              rintro e w2 ⟨rfl, h1, h2⟩
              have HC2 := Lib.hid h1
              have HB2 := Lib.hid (OnB.below HB1.out h2 (Nat.le_refl _) HB1.out.size)
              clear h1 h2 HNX
              go_wp2_with fail
              refine (csize_any _ _ _ _ _ HC2.out).mono ?_
              rintro e w3 ⟨rfl, rfl⟩
              go_wp2_with fail
              go_roundw
              case rel => exact ⟨k + 1, 0, rfl, by go_num, by omega, by omega, HC2.out, HB2.out⟩
              case measure => simp [intOf]; omega
            | false =>
              have e2 : endB (hitOf level) n s = false := by unfold endB; rw [hh]; simp [h7]
              have e3 : nxt (hitOf level) n s = n + 1 := by unfold nxt; rw [if_neg (by rw [e2]; simp)]
              rw [e3] at HN7
              rw [e2, e3] at HNX
              rw [hh] at HH
              clear h7 h1 e2 e3 hh
              go_wp2_with fail
              refine (HH.out _).mono ?_
              rintro e w2 ⟨rfl, hb⟩
              have HC1 := Lib.hid (HCC.out.later hb)
              have HB1 := Lib.hid (HB.out.trans (hb.mono HB.out.size))
              clear hb HH
              go_wp2_with fail
              refine (HNX.out _ HC1.out).mono ?_
              rintro e w2 ⟨rfl, h1, h2⟩
              have HC2 := Lib.hid h1
              have HB2 := Lib.hid (OnB.below HB1.out h2 (Nat.le_refl _) HB1.out.size)
              clear h1 h2 HNX
              go_wp2_with fail
              refine (csize_any _ _ _ _ _ HC2.out).mono ?_
              rintro e w3 ⟨rfl, rfl⟩
              go_wp2_with fail
              go_roundw
              case rel => exact ⟨k + 1, n + 1, by go_num, by go_num, by omega, HN7.out, HC2.out, HB2.out⟩
              case measure => simp [intOf]; omega
          · have e4 : decide ((2 : Int) ≤ (n : Int) + 1) = false := decide_eq_false (by omega)
            have e2 : endB (hitOf level) n s = false := by unfold endB; simp [h7, h1]
            have e3 : nxt (hitOf level) n s = n + 1 := by unfold nxt; rw [if_neg (by rw [e2]; simp)]
            rw [e3] at HN7
            rw [e2, e3] at HNX
            clear h7 h1 e2 e3 HH
            go_wp2_with fail
            refine (HNX.out _ HCC.out).mono ?_
            rintro e w2 ⟨rfl, h1, h2⟩
            have HC2 := Lib.hid h1
            have HB2 := Lib.hid (OnB.below HB.out h2 (Nat.le_refl _) HB.out.size)
            clear h1 h2 HNX
            go_wp2_with fail
            refine (csize_any _ _ _ _ _ HC2.out).mono ?_
            rintro e w3 ⟨rfl, rfl⟩
            go_wp2_with fail
            go_roundw
            case rel => exact ⟨k + 1, n + 1, by go_num, by go_num, by omega, HN7.out, HC2.out, HB2.out⟩
            case measure => simp [intOf]; omega
      · clear HCC
        go_wp2_with fail
        refine (awake18 _).mono ?_
        rintro e w2 ⟨rfl, hb⟩
        have HB2 := Lib.hid (HB.out.trans (hb.mono HB.out.size))
        clear hb
        go_wp2_with fail
        go_ret
        exact ⟨rfl, HB2.out⟩
end Go.Proofs.Ytnogddjhkdmahaa.LCutOne
