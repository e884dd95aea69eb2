/- What was framed is read back: plain facts. No program stands here but for the words of the layers below. -/
import Derived.Test.YtjmfmbokphagaaaDoorGe
namespace Go.Proofs.YtjmfmbokphagaaaDoor
open Go.RowKit Vi Cm

theorem take_sz (a b : ByteArray) : (a ++ b).extract a.size (a ++ b).size = b := by
  apply ByteArray.ext
  apply Array.toList_inj.1
  have h : ((a ++ b).extract a.size (a ++ b).size).data.toList = (a ++ b).data.toList.drop a.size := by
    rw [ByteArray.data_extract, Array.toList_extract]
    simp only [List.extract]
    exact List.take_of_length_le (by simp)
  rw [h]
  have h2 : (a ++ b).data.toList = a.data.toList ++ b.data.toList := by simp
  have h3 : a.data.toList.length = a.size := by simp
  rw [h2, ← h3, List.drop_left]
theorem take_front (a b : ByteArray) : (a ++ b).extract 0 a.size = a := by
  apply ByteArray.ext
  apply Array.toList_inj.1
  have h : ((a ++ b).extract 0 a.size).data.toList = (a ++ b).data.toList.take a.size := by
    rw [ByteArray.data_extract, Array.toList_extract]
    simp [List.extract]
  rw [h]
  have h2 : (a ++ b).data.toList = a.data.toList ++ b.data.toList := by simp
  have h3 : a.data.toList.length = a.size := by simp
  rw [h2, ← h3, List.take_left]
theorem app_assoc (a b c : ByteArray) : (a ++ b) ++ c = a ++ (b ++ c) := by
  apply ByteArray.ext
  simp
/-- a frame's bytes: its length, and what is sealed -/
theorem rdtext_frm (N X r : ByteArray) (n : Nat) (hN : N.data.toList = put n) (hX : X.size = n) (hn : n ≤ 65540) : Rd.text (N ++ (X ++ r)) 0 0 65540 = (X, N.size + n, 0) := by
  have hNz : N.size = (put n).length := by
    have : N.data.toList.length = N.size := by simp
    rw [← this, hN]
  have hd : (N ++ (X ++ r)).data.toList = put n ++ (X ++ r).data.toList := by simp [hN]
  have hg := get_put n (X ++ r).data.toList (by omega)
  have hgn : gn ((N ++ (X ++ r)).data.toList.drop 0) = n := by rw [List.drop_zero, hd]; unfold gn; rw [hg]
  have hgk : gk ((N ++ (X ++ r)).data.toList.drop 0) = N.size := by rw [List.drop_zero, hd, hNz]; unfold gk; rw [hg]
  have hgb : gb ((N ++ (X ++ r)).data.toList.drop 0) = true := by rw [List.drop_zero, hd]; unfold gb; rw [hg]
  have hnum : Rd.num (N ++ (X ++ r)) 0 0 65540 = ((n : Int), N.size, 0) := by
    unfold Rd.num
    rw [if_neg (by simp), if_neg (by rw [hgb]; simp), if_neg (by rw [hgn]; omega), hgn, hgk, Nat.zero_add]
  have hsz : (N ++ (X ++ r)).size = N.size + (X.size + r.size) := by rw [ByteArray.size_append, ByteArray.size_append]
  unfold Rd.text
  rw [hnum]
  dsimp only
  unfold Rd.fix
  rw [if_neg (by simp), if_neg (by rw [hsz]; omega)]
  have e1 : (n : Int).toNat = n := by omega
  rw [e1, take_sz, ← hX, take_front]
theorem frm_read (t r : ByteArray) (h : wrg t = 0) : fr (frm t ++ r) 0 0 = (t, (frm t).size, 0) := by
  have h0 : t.size ≠ 0 := by
    intro e
    rw [wrg_empty t e] at h
    exact absurd h (by decide)
  have h1 : t.size ≤ 65536 := by
    rcases Nat.lt_or_ge 65536 t.size with g | g
    · rw [wrg_long t g] at h
      exact absurd h (by decide)
    · exact g
  obtain ⟨T, hT⟩ : ∃ T : ByteArray, T = t ++ ⟨(tl (on 0 t.data.toList)).toArray⟩ := ⟨_, rfl⟩
  have hTz : T.size = t.size + 4 := by rw [hT, ByteArray.size_append]; rfl
  have hf : frm t = ⟨(put (t.size + 4)).toArray⟩ ++ T := by rw [hT]; rfl
  have hR : Rd.text (frm t ++ r) 0 0 65540 = (T, (frm t).size, 0) := by
    have h2 := rdtext_frm ⟨(put (t.size + 4)).toArray⟩ T r (t.size + 4) rfl hTz (by omega)
    rw [hf, app_assoc, h2]
    have h3 : (⟨(put (t.size + 4)).toArray⟩ ++ T : ByteArray).size = (⟨(put (t.size + 4)).toArray⟩ : ByteArray).size + (t.size + 4) := by rw [ByteArray.size_append, hTz]
    rw [h3]
  have hTd : T.data.toList = t.data.toList ++ tl (on 0 t.data.toList) := by rw [hT]; simp
  have htl : t.data.toList.length = t.size := by simp
  have hse : sealed T = true := by
    unfold sealed
    rw [hTz, show t.size + 4 - 4 = t.size by omega, hTd, ← htl, List.drop_left, List.take_left]
    simp
  have hex : T.extract 0 (T.size - 4) = t := by
    rw [hTz, show t.size + 4 - 4 = t.size by omega, hT, take_front]
  rw [fr_good _ 0 0 T _ 0 hR ⟨hse, by omega⟩, hex]
/-- texts' frames, one behind the other, and bytes behind them -/
def rowB (ss : List ByteArray) (r : ByteArray) : ByteArray := ⟨(catF ss).toArray⟩ ++ r
theorem rowB_cons (s : ByteArray) (ss : List ByteArray) (r : ByteArray) : rowB (s :: ss) r = frm s ++ rowB ss r := by
  unfold rowB
  apply ByteArray.ext
  apply Array.toList_inj.1
  simp [catF]
theorem rowE_cons (s : ByteArray) (ss : List ByteArray) (h : rowE (s :: ss) = 0) : wrg s = 0 ∧ rowE ss = 0 := by
  unfold rowE at h
  split at h
  · rename_i hs; exact absurd h hs
  · rename_i hs
    exact ⟨by simpa using hs, h⟩
theorem whN_row : ∀ (ss : List ByteArray) (f : Nat) (P r : ByteArray), rowE ss = 0 → (rowB ss r).size < f →
    ∃ g L, (rowB [] r).size < g ∧ whN f (P ++ rowB ss r) P.size = (ss ++ L, (whN g (P ++ rowB ss r) (P.size + (catF ss).length)).2) ∧ L = (whN g (P ++ rowB ss r) (P.size + (catF ss).length)).1
  | [], f, P, r, _, hf => ⟨f, _, hf, by simp [catF], rfl⟩
  | s :: ss, f, P, r, h, hf => by
    obtain ⟨h1, h2⟩ := rowE_cons s ss h
    obtain ⟨g, rfl⟩ : ∃ g, f = g + 1 := ⟨f - 1, by omega⟩
    have hz : (rowB (s :: ss) r).size = (frm s).size + (rowB ss r).size := by rw [rowB_cons, ByteArray.size_append]
    have hp : 0 < (frm s).size := by rw [frm_size]; omega
    have hrd : fr ((P ++ rowB (s :: ss) r).extract P.size (P ++ rowB (s :: ss) r).size) 0 0 = (s, (frm s).size, 0) := by
      rw [take_sz, rowB_cons]
      exact frm_read s _ h1
    rw [whN_yes g _ P.size s _ hrd]
    have hP : (P ++ frm s).size = P.size + (frm s).size := ByteArray.size_append
    have hPe : P ++ rowB (s :: ss) r = (P ++ frm s) ++ rowB ss r := by rw [rowB_cons, app_assoc]
    obtain ⟨g2, L, e1, e2, e3⟩ := whN_row ss g (P ++ frm s) r h2 (by omega)
    have hcl : (catF (s :: ss)).length = (frm s).size + (catF ss).length := by simp [catF]
    refine ⟨g2, L, e1, ?_, ?_⟩
    · rw [hPe, ← hP, e2, hcl, hP, Nat.add_assoc]
      rfl
    · rw [hPe, e3, hcl, hP, Nat.add_assoc]
theorem wh_row (ss : List ByteArray) (r : ByteArray) (h : rowE ss = 0) : ∃ L n, wh (rowB ss r) = (ss ++ L, n) ∧ (catF ss).length ≤ n ∧ (r.size = 0 → L = []) := by
  have hE : rowB ss r = (⟨#[]⟩ : ByteArray) ++ rowB ss r := by apply ByteArray.ext; simp
  obtain ⟨g, L, h1, h2, h3⟩ := whN_row ss ((rowB ss r).size + 1) ⟨#[]⟩ r h (by omega)
  have hz : (⟨#[]⟩ : ByteArray).size = 0 := rfl
  rw [← hE, hz, Nat.zero_add] at h2 h3
  have hsz : (rowB ss r).size = (catF ss).length + r.size := by
    unfold rowB
    rw [ByteArray.size_append]
    rfl
  have hge : ∀ (f : Nat) (S : ByteArray) (p : Nat), p ≤ (whN f S p).2 := by
    intro f
    induction f with
    | zero => intro S p; exact Nat.le_refl _
    | succ f ih =>
      intro S p
      obtain ⟨t, q, e, hR⟩ : ∃ t q e, fr (S.extract p S.size) 0 0 = (t, q, e) := ⟨_, _, _, rfl⟩
      by_cases he : e = 0
      · subst he
        rw [whN_yes f S p t q hR]
        have := ih S (p + q)
        dsimp only
        omega
      · rw [whN_no f S p t q e hR he]
        exact Nat.le_refl _
  refine ⟨L, _, h2, hge _ _ _, fun hr => ?_⟩
  obtain ⟨k, rfl⟩ : ∃ k, g = k + 1 := ⟨g - 1, by omega⟩
  have hex : (rowB ss r).extract (catF ss).length (rowB ss r).size = ⟨#[]⟩ := str_empty _ (by rw [ext_sz]; omega)
  have hno := whN_no k (rowB ss r) (catF ss).length ⟨#[]⟩ 0 3 (by rw [hex]; exact fr_nil) (by decide)
  rw [h3, hno]
end Go.Proofs.YtjmfmbokphagaaaDoor
