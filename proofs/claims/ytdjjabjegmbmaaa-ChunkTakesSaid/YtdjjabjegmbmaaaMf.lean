/- The contract of chunk.Take over this translation: the chunk of a text, or that it is none's. Condition: texts of fewer than a million bytes. -/
import Derived.Test.YtdjjabjegmbmaaaMe
namespace Go.Proofs.Ytdjjabjegmbmaaa
open Go.RowKit Vi Zp

theorem OwX.hoth {α : Type} {f : α → List Value} {s : Nat} {T : TypeId} {w W : World} {B g : Nat} {v : Value} {l : List α} (h : OwX f s T w B v l) (ho : ∀ k, k ≠ g → W.heap[k]? = w.heap[k]?) (hg : g < B) : OwX f s T W B v l := by
  rcases h with ⟨h1, h | ⟨b, cap, cur, h2, h3, h4, h5⟩⟩
  · exact ⟨h1, .inl h⟩
  · exact ⟨h1, .inr ⟨b, cap, cur, h2, h3, (ho b (by omega)).trans h4, h5⟩⟩
def TakeC (ok bad : Value) (S : ByteArray) (B : Nat) (w : World) (e : Ending) (w' : World) : Prop :=
  (∃ (lv : Int) (es : List En) (cs : List Int) (vE vC : Value), IsC S lv es cs ∧ e = .returned (.tuple #[.agg #[.int .i64 lv, vE, vC], ok]) ∧ OwX enC 2 36 w' B vE es ∧ OwX inC 1 3 w' B vC cs ∧ Below B w w' ∧ B ≤ w'.heap.size) ∨
  ((∀ lv es cs, ¬ IsC S lv es cs) ∧ e = .returned (.tuple #[.agg #[.int .i64 0, .slice none 0 0, .slice none 0 0], bad]) ∧ Below B w w' ∧ B ≤ w'.heap.size)
theorem ba_ne {a b : ByteArray} (h : a ≠ b) : (a.toList == b.toList) = false := by
  rw [beq_eq_false_iff_ne, Lib.toList_data, Lib.toList_data]
  exact fun e => h (ba_ext e)
theorem ba_neq {a b : ByteArray} (h : a ≠ b) : (a.toList != b.toList) = true := by rw [bne, ba_ne h]; rfl
theorem ba_eq_b {a b : ByteArray} (h : a = b) : (a.toList != b.toList) = false := by rw [h]; simp
set_option maxHeartbeats 4000000 in
set_option maxRecDepth 100000 in
theorem ctake_any (S : ByteArray) (w : World) (hS : S.size ≤ 999999) :
    Calls Try.prog 14 #[.string S] w (TakeC (.int .i64 0) (.int .i64 3) S w.heap.size w) := by
  have HB1 := Lib.hid (Below.refl w.heap.size w)
  go_enter Try.func14, Try.ntmps14
  go_wp2_with fail
  have HF2 := Lib.hid (blk_new w (.cells #[.int .i64 0, .slice none 0 0, .slice none 0 0] 26 (0, 0)))
  have HB3 := Lib.hid (HB1.out.alloc HB1.out.size (.cells #[.int .i64 0, .slice none 0 0, .slice none 0 0] 26 (0, 0)))
  clear HB1
  have HGU := Lib.hid (guess_any S (w.alloc (.cells #[.int .i64 0, .slice none 0 0, .slice none 0 0] 26 (0, 0))) hS)
  refine HGU.out.mono ?_
  rintro e w1 ⟨lv, vE, vC, es, cs, rfl, hone, hoe, hoc, hle, hlc, hb1, hz1⟩
  obtain ⟨A1, c1, rfl⟩ := hoe.sl
  obtain ⟨A2, c2, rfl⟩ := hoc.sl
  have HON := Lib.hid hone
  have HE := Lib.hid hoe
  have HI := Lib.hid hoc
  have hle' : (es.length : Int) ≤ 9223372036854775807 := by omega
  have hlc' : (cs.length : Int) ≤ 9223372036854775807 := by omega
  clear hone hoe hoc HGU
  have HF1 := Lib.hid (blk_below HF2.out hb1)
  have HB1 := Lib.hid (HB3.out.trans (hb1.mono (by simp)))
  have hRl : w.heap.size < w1.heap.size := lt_of_block HF1.out
  clear hb1
  obtain ⟨n1, hn1⟩ : ∃ n, n = es.length := ⟨_, rfl⟩
  obtain ⟨n2, hn2⟩ : ∃ n, n = cs.length := ⟨_, rfl⟩
  have HR := Lib.hid (show ChR w1 A1 A2 n1 n2 es cs by
    obtain ⟨A, c, e, h, _, _⟩ := HE.out.rd enC_len
    cases e
    obtain ⟨A', c', e', h', _, _⟩ := HI.out.rd inC_len
    cases e'
    rw [hn1, hn2]
    exact ⟨h, h'⟩)
  rw [← hn1] at hle'
  rw [← hn2] at hlc'
  have HE2 : Hid (OwX enC 2 36 w1 (w.heap.size + 1) (.slice A1 n1 c1) es) := Lib.hid (by rw [hn1]; have := HE.out; simpa using this)
  have HI2 : Hid (OwX inC 1 3 w1 (w.heap.size + 1) (.slice A2 n2 c2) cs) := Lib.hid (by rw [hn2]; have := HI.out; simpa using this)
  try rw [← hn1, ← hn2]
  have HCP := Lib.hid (fun (W : World) (g : ChR W A1 A2 n1 n2 es cs) => cput_any lv A1 A2 n1 c1 n2 c2 es cs W g hle' hlc')
  clear HE HI hn1 hn2 hle hlc
  by_cases hz : chW lv es cs = 0
  · have HV := Lib.hid (show cputV lv es cs = .tuple #[.string ⟨(putC lv es cs).toArray⟩, .int .i64 0] by unfold cputV; rw [if_pos hz])
    rw [HV.out] at HCP
    obtain ⟨T, hT⟩ : ∃ T : ByteArray, T = ⟨(putC lv es cs).toArray⟩ := ⟨_, rfl⟩
    rw [← hT] at HCP
    by_cases hs : T = S
    · have HIS := Lib.hid (show IsC S lv es cs from ⟨hz, by rw [← hs, hT]⟩)
      have hq := ba_eq_b hs
      have hqe : (T.toList == S.toList) = true := by rw [hs]; simp
      clear hz hs hT HV HON
      have hk101 : w.heap.size < w1.heap.size := lt_of_block HF1.out
      have HF102 := Lib.hid (blk_alloc HF1.out (.cells #[.int .i64 lv, .slice A1 n1 c1, .slice A2 n2 c2] 26 (0, 0)))
      have HF103 := Lib.hid (blk_new w1 (.cells #[.int .i64 lv, .slice A1 n1 c1, .slice A2 n2 c2] 26 (0, 0)))
      have HB104 := Lib.hid (HB1.out.alloc HB1.out.size (.cells #[.int .i64 lv, .slice A1 n1 c1, .slice A2 n2 c2] 26 (0, 0)))
      clear HB1
      have hc105 : (w1.alloc (.cells #[.int .i64 lv, .slice A1 n1 c1, .slice A2 n2 c2] 26 (0, 0))).cell? ⟨w1.heap.size, 0, none⟩ = some (.int .i64 lv) := by rw [cell_of_row _ _ _ _ _ _ HF103.out]; rfl
      have hc106 : (w1.alloc (.cells #[.int .i64 lv, .slice A1 n1 c1, .slice A2 n2 c2] 26 (0, 0))).cell? ⟨w1.heap.size, 1, none⟩ = some (.slice A1 n1 c1) := by rw [cell_of_row _ _ _ _ _ _ HF103.out]; rfl
      have hc107 : (w1.alloc (.cells #[.int .i64 lv, .slice A1 n1 c1, .slice A2 n2 c2] 26 (0, 0))).cell? ⟨w1.heap.size, 2, none⟩ = some (.slice A2 n2 c2) := by rw [cell_of_row _ _ _ _ _ _ HF103.out]; rfl
      go_wp2_with fail
      clear hc105 hc106 hc107
      refine (HCP.out (w1.alloc (.cells #[.int .i64 lv, .slice A1 n1 c1, .slice A2 n2 c2] 26 (0, 0))) (HR.out.below ((Below.refl _ _).alloc (Nat.le_refl _) _))).mono ?_
      rintro e w3 ⟨rfl, hb3⟩
      have HF108 := Lib.hid (blk_below HF102.out hb3)
      have HF109 := Lib.hid (blk_below HF103.out hb3)
      have HB110 := Lib.hid (HB104.out.trans (hb3.mono HB104.out.size))
      have HE3 := Lib.hid ((HE2.out.alloc _).kept hb3)
      have HI3 := Lib.hid ((HI2.out.alloc _).kept hb3)
      clear hb3 HB104 HF102 HF1 HF103
      have hk111 : w.heap.size < w3.heap.size := lt_of_block HF108.out
      have hk112 : w1.heap.size < w3.heap.size := lt_of_block HF109.out
      go_wp2_with (first
        | refine wpList_store_rowY rfl 26 (.tmp 2) (.tmp 22) rfl (w.heap.size) #[.int .i64 lv, .slice A1 n1 c1, .slice A2 n2 c2] rfl rfl 26 _ HF108.out (info_ch _ _ _) rfl (one_ch _ _ _ _ _ _ _) w.heap.size w HB110.out (by omega) ?_
        | refine wpList_load_row rfl 26 (.tmp 4) rfl (w1.heap.size) rfl 26 #[.int .i64 lv, .slice A1 n1 c1, .slice A2 n2 c2] (0, 0) _ HF109.out Try.underlying26 rfl (info_ch _ _ _) ?_)
      intro W4 hbk hoth hbel _
      have HF113 := Lib.hid hbk.out
      have HF114 := Lib.hid (blk_oth HF109.out hoth.out (by omega))
      have HB115 := Lib.hid hbel.out
      have HE4 := Lib.hid (HE3.out.hoth hoth.out (by omega))
      have HI4 := Lib.hid (HI3.out.hoth hoth.out (by omega))
      clear hbk hoth hbel HB110  HF108 HF109
      go_wp2_with fail
      refine bodyPost_ret (results_ctY rfl _ _ (w.heap.size) #[.int .i64 lv, .slice A1 n1 c1, .slice A2 n2 c2] rfl (run_loadVar_row _ (w.heap.size) 26 26 _ (0, 0) _ HF113.out Try.underlying26 rfl (info_ch _ _ _))) rfl ?_
      exact Or.inl ⟨lv, es, cs, _, _, HIS.out, rfl, HE4.out.mono (by omega), HI4.out.mono (by omega), HB115.out, by have := HB115.out.size; omega⟩
    · have HNO := Lib.hid (show ∀ lv0 es0 cs0, ¬ IsC S lv0 es0 cs0 by
        intro lv0 es0 cs0 hc
        obtain ⟨rfl, rfl, rfl⟩ := HON.out lv0 es0 cs0 hc
        exact hs (by rw [hT]; exact ba_ext hc.2))
      have hq := ba_neq hs
      have hqe := ba_ne hs
      clear hz hs hT HV HON
      have hk101 : w.heap.size < w1.heap.size := lt_of_block HF1.out
      have HF102 := Lib.hid (blk_alloc HF1.out (.cells #[.int .i64 lv, .slice A1 n1 c1, .slice A2 n2 c2] 26 (0, 0)))
      have HF103 := Lib.hid (blk_new w1 (.cells #[.int .i64 lv, .slice A1 n1 c1, .slice A2 n2 c2] 26 (0, 0)))
      have HB104 := Lib.hid (HB1.out.alloc HB1.out.size (.cells #[.int .i64 lv, .slice A1 n1 c1, .slice A2 n2 c2] 26 (0, 0)))
      clear HB1
      have hc105 : (w1.alloc (.cells #[.int .i64 lv, .slice A1 n1 c1, .slice A2 n2 c2] 26 (0, 0))).cell? ⟨w1.heap.size, 0, none⟩ = some (.int .i64 lv) := by rw [cell_of_row _ _ _ _ _ _ HF103.out]; rfl
      have hc106 : (w1.alloc (.cells #[.int .i64 lv, .slice A1 n1 c1, .slice A2 n2 c2] 26 (0, 0))).cell? ⟨w1.heap.size, 1, none⟩ = some (.slice A1 n1 c1) := by rw [cell_of_row _ _ _ _ _ _ HF103.out]; rfl
      have hc107 : (w1.alloc (.cells #[.int .i64 lv, .slice A1 n1 c1, .slice A2 n2 c2] 26 (0, 0))).cell? ⟨w1.heap.size, 2, none⟩ = some (.slice A2 n2 c2) := by rw [cell_of_row _ _ _ _ _ _ HF103.out]; rfl
      go_wp2_with fail
      clear hc105 hc106 hc107
      refine (HCP.out (w1.alloc (.cells #[.int .i64 lv, .slice A1 n1 c1, .slice A2 n2 c2] 26 (0, 0))) (HR.out.below ((Below.refl _ _).alloc (Nat.le_refl _) _))).mono ?_
      rintro e w3 ⟨rfl, hb3⟩
      have HF108 := Lib.hid (blk_below HF102.out hb3)
      have HF109 := Lib.hid (blk_below HF103.out hb3)
      have HB110 := Lib.hid (HB104.out.trans (hb3.mono HB104.out.size))
      clear hb3 HB104 HF102 HF1 HF103
      have hk111 : w.heap.size < w3.heap.size := lt_of_block HF108.out
      have hk112 : w1.heap.size < w3.heap.size := lt_of_block HF109.out
      go_wp2_with (first
        | refine wpList_store_rowY rfl 26 (.tmp 2) (.tmp 21) rfl (w.heap.size) #[.int .i64 0, .slice none 0 0, .slice none 0 0] rfl rfl 26 _ HF108.out (info_ch _ _ _) rfl (one_ch _ _ _ _ _ _ _) w.heap.size w HB110.out (by omega) ?_)
      intro W4 hbk hoth hbel _
      have HF113 := Lib.hid hbk.out
      have HF114 := Lib.hid (blk_oth HF109.out hoth.out (by omega))
      have HB115 := Lib.hid hbel.out
      clear hbk hoth hbel HB110  HF108 HF109
      go_wp2_with fail
      refine bodyPost_ret (results_ctY rfl _ _ (w.heap.size) #[.int .i64 0, .slice none 0 0, .slice none 0 0] rfl (run_loadVar_row _ (w.heap.size) 26 26 _ (0, 0) _ HF113.out Try.underlying26 rfl (info_ch _ _ _))) rfl ?_
      exact Or.inr ⟨HNO.out, rfl, HB115.out, by have := HB115.out.size; omega⟩
  · have HNO := Lib.hid (show ∀ lv0 es0 cs0, ¬ IsC S lv0 es0 cs0 by
      intro lv0 es0 cs0 hc
      obtain ⟨rfl, rfl, rfl⟩ := HON.out lv0 es0 cs0 hc
      exact hz hc.1)
    have HV := Lib.hid (show cputV lv es cs = .tuple #[.string ⟨#[]⟩, .int .i64 (chW lv es cs)] by unfold cputV; rw [if_neg hz])
    rw [HV.out] at HCP
    have hzz : (chW lv es cs != 0) = true := by simpa using hz
    generalize chW lv es cs = z at HCP hzz
    clear hz HV HON
    have hk101 : w.heap.size < w1.heap.size := lt_of_block HF1.out
    have HF102 := Lib.hid (blk_alloc HF1.out (.cells #[.int .i64 lv, .slice A1 n1 c1, .slice A2 n2 c2] 26 (0, 0)))
    have HF103 := Lib.hid (blk_new w1 (.cells #[.int .i64 lv, .slice A1 n1 c1, .slice A2 n2 c2] 26 (0, 0)))
    have HB104 := Lib.hid (HB1.out.alloc HB1.out.size (.cells #[.int .i64 lv, .slice A1 n1 c1, .slice A2 n2 c2] 26 (0, 0)))
    clear HB1
    have hc105 : (w1.alloc (.cells #[.int .i64 lv, .slice A1 n1 c1, .slice A2 n2 c2] 26 (0, 0))).cell? ⟨w1.heap.size, 0, none⟩ = some (.int .i64 lv) := by rw [cell_of_row _ _ _ _ _ _ HF103.out]; rfl
    have hc106 : (w1.alloc (.cells #[.int .i64 lv, .slice A1 n1 c1, .slice A2 n2 c2] 26 (0, 0))).cell? ⟨w1.heap.size, 1, none⟩ = some (.slice A1 n1 c1) := by rw [cell_of_row _ _ _ _ _ _ HF103.out]; rfl
    have hc107 : (w1.alloc (.cells #[.int .i64 lv, .slice A1 n1 c1, .slice A2 n2 c2] 26 (0, 0))).cell? ⟨w1.heap.size, 2, none⟩ = some (.slice A2 n2 c2) := by rw [cell_of_row _ _ _ _ _ _ HF103.out]; rfl
    go_wp2_with fail
    clear hc105 hc106 hc107
    refine (HCP.out (w1.alloc (.cells #[.int .i64 lv, .slice A1 n1 c1, .slice A2 n2 c2] 26 (0, 0))) (HR.out.below ((Below.refl _ _).alloc (Nat.le_refl _) _))).mono ?_
    rintro e w3 ⟨rfl, hb3⟩
    have HF108 := Lib.hid (blk_below HF102.out hb3)
    have HF109 := Lib.hid (blk_below HF103.out hb3)
    have HB110 := Lib.hid (HB104.out.trans (hb3.mono HB104.out.size))
    clear hb3 HB104 HF102 HF1 HF103
    have hk111 : w.heap.size < w3.heap.size := lt_of_block HF108.out
    have hk112 : w1.heap.size < w3.heap.size := lt_of_block HF109.out
    go_wp2_with (first
      | refine wpList_store_rowY rfl 26 (.tmp 2) (.tmp 21) rfl (w.heap.size) #[.int .i64 0, .slice none 0 0, .slice none 0 0] rfl rfl 26 _ HF108.out (info_ch _ _ _) rfl (one_ch _ _ _ _ _ _ _) w.heap.size w HB110.out (by omega) ?_)
    intro W4 hbk hoth hbel _
    have HF113 := Lib.hid hbk.out
    have HF114 := Lib.hid (blk_oth HF109.out hoth.out (by omega))
    have HB115 := Lib.hid hbel.out
    clear hbk hoth hbel HB110  HF108 HF109
    go_wp2_with fail
    refine bodyPost_ret (results_ctY rfl _ _ (w.heap.size) #[.int .i64 0, .slice none 0 0, .slice none 0 0] rfl (run_loadVar_row _ (w.heap.size) 26 26 _ (0, 0) _ HF113.out Try.underlying26 rfl (info_ch _ _ _))) rfl ?_
    exact Or.inr ⟨HNO.out, rfl, HB115.out, by have := HB115.out.size; omega⟩
theorem takeCY {ok bad : Value} {S : ByteArray} {B : Nat} {w : World} {lv : Int} {es : List En} {cs : List Int} (h : IsC S lv es cs) (hone : ∀ lv' es' cs', IsC S lv' es' cs' → lv' = lv ∧ es' = es ∧ cs' = cs) (e : Ending) (w' : World) (k : TakeC ok bad S B w e w') :
    ∃ vE vC, e = .returned (.tuple #[.agg #[.int .i64 lv, vE, vC], ok]) ∧ OwX enC 2 36 w' B vE es ∧ OwX inC 1 3 w' B vC cs ∧ Below B w w' ∧ B ≤ w'.heap.size := by
  rcases k with ⟨lv', es', cs', vE, vC, h1, h2, h3, h4, h5, h6⟩ | ⟨h1, _⟩
  · obtain ⟨rfl, rfl, rfl⟩ := hone lv' es' cs' h1
    exact ⟨vE, vC, h2, h3, h4, h5, h6⟩
  · exact absurd h (h1 _ _ _)
theorem takeCN {ok bad : Value} {S : ByteArray} {B : Nat} {w : World} (h : ∀ lv es cs, ¬ IsC S lv es cs) (e : Ending) (w' : World) (k : TakeC ok bad S B w e w') :
    e = .returned (.tuple #[.agg #[.int .i64 0, .slice none 0 0, .slice none 0 0], bad]) ∧ Below B w w' := by
  rcases k with ⟨lv', es', cs', vE, vC, h1, _⟩ | ⟨_, h2, h3, _⟩
  · exact absurd h1 (h _ _ _)
  · exact ⟨h2, h3⟩
/-- one text, one chunk -/
theorem IsC.one {S : ByteArray} {lv lv' : Int} {es es' : List En} {cs cs' : List Int} (h : IsC S lv es cs) (k : IsC S lv' es' cs') : lv' = lv ∧ es' = es ∧ cs' = cs := by
  have start : ∃ (q : Nat) (er v n : Int), GG S q er v n [] [] 0 ∧ 0 ≤ n := by
    obtain ⟨x, q1, e1, h1⟩ : ∃ a b c, Rd.fix S 0 0 1 = (a, b, c) := ⟨_, _, _, rfl⟩
    by_cases hx : x = ⟨#[73]⟩
    · obtain ⟨v, q2, e2, h2⟩ : ∃ a b c, Rd.num S q1 e1 40 = (a, b, c) := ⟨_, _, _, rfl⟩
      obtain ⟨n, q3, e3, h3⟩ : ∃ a b c, Rd.num S q2 e2 8 = (a, b, c) := ⟨_, _, _, rfl⟩
      have := (num_max S q2 e2 8 (by omega)).1
      rw [h3] at this
      exact ⟨_, _, _, _, GG.over h1 hx h2 h3, this⟩
    · obtain ⟨n, q3, e3, h3⟩ : ∃ a b c, Rd.num S q1 e1 8 = (a, b, c) := ⟨_, _, _, rfl⟩
      have := (num_max S q1 e1 8 (by omega)).1
      rw [h3] at this
      exact ⟨_, _, _, _, GG.leaf h1 hx h3, this⟩
  have step : ∀ (m k : Nat) (q : Nat) (er v n : Int) (es0 : List En) (cs0 : List Int), n.toNat - k = m → (k : Int) ≤ n → q ≤ S.size → GG S q er v n es0 cs0 k → ∃ q' er' es1 cs1, GG S q' er' v n es1 cs1 n.toNat := by
    intro m
    induction m with
    | zero =>
      intro k q er v n es0 cs0 hm hk _ hg
      have : k = n.toNat := by omega
      subst this
      exact ⟨_, _, _, _, hg⟩
    | succ m ih =>
      intro k q er v n es0 cs0 hm hk hq hg
      obtain ⟨s, q1, e1, h1⟩ : ∃ a b c, Rd.text S q er 64 = (a, b, c) := ⟨_, _, _, rfl⟩
      have l1 := Rd.text_le S q er 64 hq
      rw [h1] at l1
      by_cases hv : v = 0
      · obtain ⟨x, q2, e2, h2⟩ : ∃ a b c, Rd.text S q1 e1 2048 = (a, b, c) := ⟨_, _, _, rfl⟩
        have l2 := Rd.text_le S q1 e1 2048 l1
        rw [h2] at l2
        exact ih (k + 1) q2 e2 v n _ _ (by omega) (by omega) l2 (hg.stepL hv (by omega) hq h1 h2)
      · obtain ⟨x, q2, e2, h2⟩ : ∃ a b c, Rd.fix S q1 e1 32 = (a, b, c) := ⟨_, _, _, rfl⟩
        have l2 := Rd.fix_le S q1 e1 32 l1
        rw [h2] at l2
        obtain ⟨y, q3, e3, h3⟩ : ∃ a b c, Rd.num S q2 e2 2147483648 = (a, b, c) := ⟨_, _, _, rfl⟩
        have l3 := Rd.num_le S q2 e2 2147483648 l2
        rw [h3] at l3
        exact ih (k + 1) q3 e3 v n _ _ (by omega) (by omega) l3 (hg.stepI hv (by omega) hq h1 h2 h3)
  obtain ⟨q, er, v, n, hg, hn⟩ := start
  by_cases hq : q ≤ S.size
  · obtain ⟨q', er', es1, cs1, hg2⟩ := step _ 0 q er v n [] [] rfl (by omega) hq hg
    obtain ⟨_, a1, a2, a3⟩ := hg2.done (by omega) h
    obtain ⟨_, b1, b2, b3⟩ := hg2.done (by omega) k
    exact ⟨by rw [← b1, a1], by rw [← b2, a2], by rw [← b3, a3]⟩
  · obtain ⟨_, a1, a2, _, _, a3⟩ := hg _ _ _ h
    obtain ⟨_, b1, b2, _, _, b3⟩ := hg _ _ _ k
    rw [List.drop_eq_nil_of_le (by rw [ba_len]; omega)] at a3 b3
    have e0 : ∀ (lv : Int) (es : List En) (cs : List Int), putR lv es cs = [] → es = [] := by
      intro lv es cs hp
      cases es with
      | nil => rfl
      | cons e r =>
        exfalso
        unfold putR putE at hp
        have := congrArg List.length hp
        simp only [List.length_append, List.length_nil] at this
        have h1 : 1 ≤ (put e.1.size).length := by unfold put; rw [leb]; split <;> simp
        omega
    rw [List.drop_zero, List.drop_zero] at a3 b3
    have z1 := e0 _ _ _ a3.symm
    have z2 := e0 _ _ _ b3.symm
    obtain ⟨_, _, _, f4, f5⟩ := h.facts
    obtain ⟨_, _, _, g4, g5⟩ := k.facts
    have y1 : lv = 0 := by
      by_cases hl : lv = 0
      · exact hl
      · exact absurd z1 (f5 hl).1
    have y2 : lv' = 0 := by
      by_cases hl : lv' = 0
      · exact hl
      · exact absurd z2 (g5 hl).1
    exact ⟨by rw [y1, y2], by rw [z1, z2], by rw [f4 y1, g4 y2]⟩
end Go.Proofs.Ytdjjabjegmbmaaa
