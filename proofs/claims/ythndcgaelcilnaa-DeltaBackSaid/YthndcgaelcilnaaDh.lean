/- Apply of layer 11, the program's and the document's, over this translation. Conditions: texts of fewer than a hundred thousand bytes. -/
import Derived.Test.YthndcgaelcilnaaDs
import Derived.Test.YthndcgaelcilnaaDo
import Derived.Test.YthndcgaelcilnaaDk
namespace Go.Proofs.Ythndcgaelcilnaa
open Go.RowKit Vi

def TakeY (ok : Value) (l : List Pc) (B : Nat) (w : World) (e : Ending) (w' : World) : Prop := ∃ v', e = .returned (.tuple #[v', ok]) ∧ OwX pcC 4 26 w' B v' l ∧ Below B w w' ∧ B ≤ w'.heap.size
theorem takeY {ok bad : Value} {S : ByteArray} {B : Nat} {w : World} {l : List Pc} (h : IsD S l) (e : Ending) (w' : World) (k : TakeP ok bad S B w e w') : TakeY ok l B w e w' := by
  rcases k with ⟨m, v', h1, h2, h3, h4, h5⟩ | ⟨h1, _⟩
  · obtain rfl := h.one h1
    exact ⟨v', h2, h3, h4, h5⟩
  · exact absurd h (h1 l)
theorem takeN {ok bad : Value} {S : ByteArray} {B : Nat} {w : World} (h : ∀ l, ¬ IsD S l) (e : Ending) (w' : World) (k : TakeP ok bad S B w e w') : e = .returned (.tuple #[.slice none 0 0, bad]) ∧ Below B w w' := by
  rcases k with ⟨m, v', h1, h2, h3, h4, h5⟩ | ⟨_, h2, h3, _⟩
  · exact absurd h1 (h m)
  · exact ⟨h2, h3⟩
set_option maxHeartbeats 1600000 in
set_option maxRecDepth 100000 in
theorem dapply_yes (B S : ByteArray) (l : List Pc) (w : World) (hS : S.size ≤ 100000) (hB : B.size ≤ 100000) (h : IsD S l) (Z : ByteArray) (z : Int) (hz : jn B l ⟨#[]⟩ = (Z, z)) :
    Calls Try.prog 25 #[.string B, .string S] w fun e w' => e = .returned (.tuple #[.string Z, .int .i64 z]) ∧ Below w.heap.size w w' := by
  have HT := Lib.hid ((dtake_any S w (by omega)).mono (takeY h))
  have hl := h.len
  have HJ := Lib.hid (fun (A : Option Addr) (c : Nat) (W : World) (g : RdX pcC 4 W A l.length l) => djoin_any B A l.length c l W g (by omega) hB Z z hz)
  clear hz h
  go_enter Try.func25, Try.ntmps25
  go_wp2_with fail
  refine HT.out.mono ?_
  rintro e w1 ⟨v, rfl, hox, hb1, hz1⟩
  obtain ⟨A, c, rfl, hrd, _, _⟩ := hox.rd pcC_len
  have HR := Lib.hid hrd
  have HB1 := Lib.hid hb1
  clear hox hb1 hrd
  go_wp2_with fail
  refine (HJ.out A c w1 HR.out).mono ?_
  rintro e w2 ⟨rfl, hb2⟩
  have HB2 := Lib.hid (HB1.out.trans (hb2.mono hz1))
  clear hb2
  go_wp2_with fail
  go_ret2
  exact ⟨rfl, HB2.out⟩
set_option maxHeartbeats 1600000 in
set_option maxRecDepth 100000 in
theorem dapply_no (B S : ByteArray) (w : World) (hS : S.size ≤ 100000) (h : ∀ l, ¬ IsD S l) :
    Calls Try.prog 25 #[.string B, .string S] w fun e w' => e = .returned (.tuple #[.string ⟨#[]⟩, .int .i64 3]) ∧ Below w.heap.size w w' := by
  have HT := Lib.hid ((dtake_any S w (by omega)).mono (takeN h))
  clear h
  go_enter Try.func25, Try.ntmps25
  go_wp2_with fail
  refine HT.out.mono ?_
  rintro e w1 ⟨rfl, hb1⟩
  have HB1 := Lib.hid hb1
  clear hb1
  go_wp2_with fail
  go_ret2
  exact ⟨rfl, HB1.out⟩
set_option maxHeartbeats 1600000 in
set_option maxRecDepth 100000 in
theorem rdapply_yes (B S : ByteArray) (l : List Pc) (w : World) (hS : S.size ≤ 100000) (hB : B.size ≤ 100000) (h : IsD S l) (Z : ByteArray) (z : Int) (hz : jn B l ⟨#[]⟩ = (Z, z)) :
    Calls Try.prog 26 #[.string B, .string S] w fun e w' => e = .returned (.tuple #[.string Z, .int .i64 z]) ∧ Below w.heap.size w w' := by
  have HT := Lib.hid ((drtake_any S w (by omega)).mono (takeY h))
  have hl := h.len
  have HJ := Lib.hid (fun (A : Option Addr) (c : Nat) (W : World) (g : RdX pcC 4 W A l.length l) => rjoin_any B A l.length c l W g (by omega) hB Z z hz)
  clear hz h
  go_enter Try.func26, Try.ntmps26
  go_wp2_with fail
  refine HT.out.mono ?_
  rintro e w1 ⟨v, rfl, hox, hb1, hz1⟩
  obtain ⟨A, c, rfl, hrd, _, _⟩ := hox.rd pcC_len
  have HR := Lib.hid hrd
  have HB1 := Lib.hid hb1
  clear hox hb1 hrd
  go_wp2_with fail
  refine (HJ.out A c w1 HR.out).mono ?_
  rintro e w2 ⟨rfl, hb2⟩
  have HB2 := Lib.hid (HB1.out.trans (hb2.mono hz1))
  clear hb2
  go_wp2_with fail
  go_ret2
  exact ⟨rfl, HB2.out⟩
set_option maxHeartbeats 1600000 in
set_option maxRecDepth 100000 in
theorem rdapply_no (B S : ByteArray) (w : World) (hS : S.size ≤ 100000) (h : ∀ l, ¬ IsD S l) :
    Calls Try.prog 26 #[.string B, .string S] w fun e w' => e = .returned (.tuple #[.string ⟨#[]⟩, .int .i64 3]) ∧ Below w.heap.size w w' := by
  have HT := Lib.hid ((drtake_any S w (by omega)).mono (takeN h))
  clear h
  go_enter Try.func26, Try.ntmps26
  go_wp2_with fail
  refine HT.out.mono ?_
  rintro e w1 ⟨rfl, hb1⟩
  have HB1 := Lib.hid hb1
  clear hb1
  go_wp2_with fail
  go_ret2
  exact ⟨rfl, HB1.out⟩
end Go.Proofs.Ythndcgaelcilnaa
