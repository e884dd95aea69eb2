/- the document's Of; the facts of a graph rise, in one. Conditions: as in the texts it is made of. -/
import Derived.Test.YtbjngbacnkmjhaaIMc
import Derived.Test.YtbjngbacnkmjhaaAw
import Derived.Lib.AppendZerosOnto
namespace Go.Proofs.Ytbjngbacnkmjhaa
open Go.RowKit Vi

def labsN (x : Nd) : List Fc := x.2.1.map (lF 2 x.1)
def prosN (x : Nd) : List Fc := x.2.2.map (pF 3 x.1)
def labsE (y : Ed) : List Fc := y.2.2.2.1.map (lF 5 y.1)
def prosE (y : Ed) : List Fc := y.2.2.2.2.map (pF 6 y.1)
theorem fmap_len {α β : Type} (f : α → List β) : ∀ (l : List α) (_ : ∀ x ∈ l, (f x).length ≤ 8), (l.flatMap f).length ≤ 8 * l.length
  | [], _ => by simp
  | x :: r, h => by
    have q1 := fmap_len f r (fun y hy => h y (List.mem_cons_of_mem _ hy))
    have q2 := h x (by simp)
    rw [List.flatMap_cons, List.length_append, List.length_cons]
    omega
theorem fmap_take {α β : Type} (f : α → List β) (l : List α) (k : Nat) {x : α} (h : l[k]? = some x) : (l.take (k + 1)).flatMap f = (l.take k).flatMap f ++ f x := by
  obtain ⟨hl, rfl⟩ := List.getElem?_eq_some_iff.1 h
  rw [List.take_succ_eq_append_getElem hl, List.flatMap_append]
  simp
theorem map_take1 {α β : Type} (f : α → β) (l : List α) (k : Nat) {x : α} (h : l[k]? = some x) : (l.take (k + 1)).map f = (l.take k).map f ++ [f x] := by
  obtain ⟨hl, rfl⟩ := List.getElem?_eq_some_iff.1 h
  rw [List.take_succ_eq_append_getElem hl, List.map_append]
  rfl
theorem OwX.le {w : World} {B : Nat} {v : Value} {l m : List Fc} (h : OwX fcC 4 178 w B v l) (e : l = m) : OwX fcC 4 178 w B v m := e ▸ h
theorem boxO {w w' : World} {B : Nat} {v : Value} {l : List Fc} {b : Nat} {o : Obj} {T : TypeId} (ho : ∃ cs fr, o = .cells cs T fr) (k : OwX fcC 4 178 w B v l) (hg : w.grownBy w' v.ownBlock) (h : w.heap[b]? = some o) (hT : T ≠ 178) : w'.heap[b]? = some o := by
  obtain ⟨cs, fr, rfl⟩ := ho
  exact k.box hg h (Or.inl hT)
/-- the facts in the document's order -/
def docF (X : List Nd) (Y : List Ed) : List Fc := (((((X.map nF ++ X.flatMap labsN) ++ X.flatMap prosN) ++ Y.map eF) ++ Y.flatMap labsE) ++ Y.flatMap prosE)
def rfcts (X : List Nd) (Y : List Ed) : List Fc := if gW X Y ≠ 0 then [] else docF X Y
set_option maxRecDepth 100000 in
set_option maxHeartbeats 16000000 in
theorem rfof_any (A A2 : Option Addr) (n c n2 c2 : Nat) (X : List Nd) (Y : List Ed) (w : World) (h : GrIs w A n A2 n2 X Y) (k : GrOk X Y) (ki : GrInt X Y) (hn : n ≤ 100) (hn2 : n2 ≤ 100) :
    Calls Try.prog 46 #[.agg #[.slice A n c, .slice A2 n2 c2]] w (RetF0 w (rfcts X Y)) := by
  have H := Lib.hid h
  have HL := Lib.hid h.nl
  have HCK := Lib.hid (fun (W : World) (q : GrIs W A n A2 n2 X Y) => wrong26_any A A2 n c n2 c2 X Y W q k)
  obtain ⟨z, hz⟩ : ∃ z, z = gW X Y := ⟨_, rfl⟩
  have HZ := Lib.hid hz
  have HKI := Lib.hid ki
  rw [← hz] at HCK
  clear h k ki hz
  have HB1 := Lib.hid (Below.refl w.heap.size w)
  go_enter Try.func46, Try.ntmps46
  have HF2 := Lib.hid (blk_new w (.cells #[.slice A n c, .slice A2 n2 c2] 65 (0, 0)))
  have HB3 := Lib.hid (HB1.out.alloc HB1.out.size (.cells #[.slice A n c, .slice A2 n2 c2] 65 (0, 0)))
  have c0 : (w.alloc (.cells #[.slice A n c, .slice A2 n2 c2] 65 (0, 0))).cell? ⟨w.heap.size, 0, none⟩ = some (.slice A n c) := by rw [cell_of_row _ _ _ _ _ _ HF2.out]; rfl
  have c1 : (w.alloc (.cells #[.slice A n c, .slice A2 n2 c2] 65 (0, 0))).cell? ⟨w.heap.size, 1, none⟩ = some (.slice A2 n2 c2) := by rw [cell_of_row _ _ _ _ _ _ HF2.out]; rfl
  go_wp2_with fail
  clear c0 c1
  refine (HCK.out (w.alloc (.cells #[.slice A n c, .slice A2 n2 c2] 65 (0, 0))) (H.out.below HB3.out)).mono ?_
  rintro e w1 ⟨rfl, hb1⟩
  have HG := Lib.hid (blk_below HF2.out hb1)
  have HB := Lib.hid (HB3.out.trans (hb1.mono HB3.out.size))
  clear hb1 HB3 HF2 HB1 HCK
  by_cases hz0 : z = 0
  rotate_left
  · have hzn : (z != 0) = true := by simpa using hz0
    have HE := Lib.hid (show rfcts X Y = [] by unfold rfcts; rw [if_pos (by rw [← HZ.out]; exact hz0)])
    go_wp2_with fail
    go_ret
    exact ⟨_, rfl, by rw [HE.out]; exact OwX.nil _, HB.out⟩
  subst hz0
  have HE := Lib.hid (show rfcts X Y = docF X Y by unfold rfcts; rw [if_neg (by rw [← HZ.out]; simp)])
  have HSM := Lib.hid (gr_sm HZ.out.symm HKI.out)
  clear HKI HZ
  obtain ⟨go0, hgo⟩ : ∃ o : Obj, o = (.cells #[.slice A n c, .slice A2 n2 c2] 65 (0, 0)) := ⟨_, rfl⟩
  have HGO := Lib.hid hgo
  rw [← hgo] at HG
  clear hgo
  have c0 : w1.cell? ⟨w.heap.size, 0, none⟩ = some (.slice A n c) := by rw [cell_of_row _ _ _ _ _ _ (show w1.heap[w.heap.size]? = some (.cells #[.slice A n c, .slice A2 n2 c2] 65 (0, 0)) by rw [← HGO.out]; exact HG.out)]; rfl
  have c1 : w1.cell? ⟨w.heap.size, 1, none⟩ = some (.slice A2 n2 c2) := by rw [cell_of_row _ _ _ _ _ _ (show w1.heap[w.heap.size]? = some (.cells #[.slice A n c, .slice A2 n2 c2] 65 (0, 0)) by rw [← HGO.out]; exact HG.out)]; rfl
  go_wp2_with fail
  clear c0 c1
  have HP0 := Lib.hid (show ([] : List Fc).length ≤ 0 from Nat.le_refl _)
  obtain ⟨P0, hP0⟩ : ∃ P0 : List Fc, P0 = [] := ⟨_, rfl⟩
  rw [← hP0] at HP0
  have HPE0 := Lib.hid hP0
  clear hP0
  go_loopw [3, 30] (fun s i wr => ∃ (k : Nat) (v : Value), s = v ∧ i = .int .i64 (k : Int) ∧ k ≤ n ∧ OwX fcC 4 178 wr w.heap.size v (P0 ++ (X.take k).map nF) ∧ wr.heap[w.heap.size]? = some go0 ∧ Below w.heap.size w wr) (fun _ i _ => n - (intOf i).toNat)
  case atStart => exact ⟨0, _, rfl, rfl, Nat.zero_le _, by rw [HPE0.out]; exact OwX.nil _, HG.out, HB.out⟩
  case round =>
    clear HG HB
    obtain ⟨k, v, rfl, rfl, hk, ho, hg, hb⟩ := hrel
    obtain ⟨av, nv, cv, rfl⟩ := ho.sl3
    have HO := Lib.hid ho
    have HG := Lib.hid hg
    have HB := Lib.hid hb
    clear ho hg hb
    by_cases hlt : k < n
    · have hd1 : decide ((k : Int) < (n : Int)) = true := decide_eq_true (by omega)
      have hi0 : (0 : Int) ≤ (k : Int) := by omega
      have hkl : k < X.length := by have := HL.out.1; omega
      obtain ⟨x, hxx⟩ : ∃ x, x = X[k] := ⟨_, rfl⟩
      have HK := Lib.hid (show X[k]? = some x by rw [List.getElem?_eq_getElem hkl, hxx])
      have HTA := Lib.hid (map_take1 nF X k HK.out)
      have hsm := HSM.out.nd x (by rw [hxx]; exact List.getElem_mem hkl)
      have HLE := Lib.hid (show (P0 ++ (X.take k).map nF).length ≤ 100 by
        have q2 := HP0.out
        rw [List.length_append, List.length_map, List.length_take]
        omega)
      clear hxx
      obtain ⟨b1, o1, L1, q1, r1, M1, rfl, x0, x1, x2, hp1⟩ := H.out.node hlt HK.out
      obtain ⟨i, ss, ps⟩ := x
      dsimp only at x0 x1 x2 hp1 hsm
      have x0 : wr.cell? ⟨b1, o1 + k * 3, none⟩ = some (.string i) := (HB.out.cell (p := ⟨b1, o1 + k * 3, none⟩) (World.block_lt_of_cell? w _ x0)).trans x0
      have x1 : wr.cell? ⟨b1, o1 + k * 3 + 1, none⟩ = some (.slice L1 ss.length q1) := (HB.out.cell (p := ⟨b1, o1 + k * 3 + 1, none⟩) (World.block_lt_of_cell? w _ x1)).trans x1
      have x2 : wr.cell? ⟨b1, o1 + k * 3 + 2, none⟩ = some (.slice M1 ps.length r1) := (HB.out.cell (p := ⟨b1, o1 + k * 3 + 2, none⟩) (World.block_lt_of_cell? w _ x2)).trans x2
      have HP1 := Lib.hid hp1
      have HS1 := Lib.hid hsm.2
      have hs8 : ss.length ≤ 8 := HS1.out.l
      have hp8 : ps.length ≤ 8 := HS1.out.pl
      clear hp1 hsm
      generalize hns : ss.length = ns at *
      generalize hnp : ps.length = np at *
      have HN1 := Lib.hid hns
      have HN2 := Lib.hid hnp
      clear hns hnp
      obtain ⟨Lk, hLk⟩ : ∃ Lk, Lk = P0 ++ (X.take k).map nF := ⟨_, rfl⟩
      have HLK := Lib.hid hLk
      rw [← hLk] at HO HLE
      clear hLk
      have HX := Lib.hid (blk_new wr (.cells #[.string i, .slice L1 ns q1, .slice M1 np r1] 81 (0, 0)))
      have HBn := Lib.hid ((Below.refl wr.heap.size wr).alloc (Nat.le_refl _) (.cells #[.string i, .slice L1 ns q1, .slice M1 np r1] 81 (0, 0)))
      have HO1 := Lib.hid (HO.out.kept HBn.out)
      have HG1 := Lib.hid (blk_below HG.out HBn.out)
      have HB1 := Lib.hid (HB.out.trans (HBn.out.mono HB.out.size))
      have y0 : (wr.alloc (.cells #[.string i, .slice L1 ns q1, .slice M1 np r1] 81 (0, 0))).cell? ⟨wr.heap.size, 0, none⟩ = some (.string i) := by rw [cell_of_row _ _ _ _ _ _ HX.out]; rfl
      have HGF : Hid (((wr.alloc (.cells #[.string i, .slice L1 ns q1, .slice M1 np r1] 81 (0, 0))).alloc (.cells #[.int .i64 1, .string i, .string ⟨#[]⟩, .string ⟨#[]⟩] 178 (0, 0))).heap[w.heap.size]? = some go0) := Lib.hid (blk_alloc HG1.out (.cells #[.int .i64 1, .string i, .string ⟨#[]⟩, .string ⟨#[]⟩] 178 (0, 0)))
      have HOF := Lib.hid (HO1.out.alloc (.cells #[.int .i64 1, .string i, .string ⟨#[]⟩, .string ⟨#[]⟩] 178 (0, 0)))
      have hrn : ((wr.alloc (.cells #[.string i, .slice L1 ns q1, .slice M1 np r1] 81 (0, 0))).alloc (.cells #[.int .i64 1, .string i, .string ⟨#[]⟩, .string ⟨#[]⟩] 178 (0, 0))).heap[wr.heap.size + 1]? = some (.cells #[.int .i64 1, .string i, .string ⟨#[]⟩, .string ⟨#[]⟩] 178 (0, 0)) := blk_newN (by simp)
      have HBF := Lib.hid (HB1.out.alloc (by have := HB.out.size; simp at this ⊢ <;> omega) (.cells #[.int .i64 1, .string i, .string ⟨#[]⟩, .string ⟨#[]⟩] 178 (0, 0)))
      go_wp2_with (at_builtin; refine wpList_appX rfl (.tmp 34) (.tmp 38) 71 178 _ 56 rfl Try.underlying71 info_fcB rfl (by omega) (by omega) fcC_len fcC_one w.heap.size w HBF.out (by have := HB.out.size; simp at this ⊢ <;> omega) (.slice av nv cv) _ rfl HOF.out (wr.heap.size + 1) 1 (1, i, ⟨#[]⟩, ⟨#[]⟩) #[.int .i64 1, .string i, .string ⟨#[]⟩, .string ⟨#[]⟩] 178 (0, 0) rfl hrn rfl (by have := HLE.out; omega) ?_)
      intro v2 w12 HO2 HB2 HZ2 HG2
      have hv2 := HO2.out.one
      have HGN := Lib.hid (boxO (T := 65) (by rw [HGO.out]; exact ⟨_, _, rfl⟩) HOF.out HG2.out HGF.out (by decide))
      go_wp2_with fail
      go_roundw
      case rel => exact ⟨k + 1, v2, rfl, by go_num, by omega, HO2.out.le (by rw [HLK.out, HTA.out, List.append_assoc]; rfl), HGN.out, HB2.out⟩
      case measure => simp [intOf] <;> omega
    · have hd1 : decide ((k : Int) < (n : Int)) = false := decide_eq_false (by omega)
      have HT0 := Lib.hid (show X.take k = X from List.take_of_length_le (by have := HL.out.1; omega))
      rw [HT0.out] at HO
      obtain ⟨P1, hP1⟩ : ∃ P1, P1 = P0 ++ X.map nF := ⟨_, rfl⟩
      have HP1 := Lib.hid (show P1.length ≤ 100 by
        have q2 := HP0.out
        have q3 := HL.out.1
        rw [hP1, List.length_append, List.length_map]
        omega)
      have HPE1 := Lib.hid hP1
      rw [← hP1] at HO
      clear hP1 HT0
      have c0 : wr.cell? ⟨w.heap.size, 0, none⟩ = some (.slice A n c) := by rw [cell_of_row _ _ _ _ _ _ (show wr.heap[w.heap.size]? = some (.cells #[.slice A n c, .slice A2 n2 c2] 65 (0, 0)) by rw [← HGO.out]; exact HG.out)]; rfl
      have c1 : wr.cell? ⟨w.heap.size, 1, none⟩ = some (.slice A2 n2 c2) := by rw [cell_of_row _ _ _ _ _ _ (show wr.heap[w.heap.size]? = some (.cells #[.slice A n c, .slice A2 n2 c2] 65 (0, 0)) by rw [← HGO.out]; exact HG.out)]; rfl
      go_wp2_with fail
      clear c0 c1 hd1
      go_loopw [3, 44] (fun s i wr => ∃ (k : Nat) (v : Value), s = v ∧ i = .int .i64 (k : Int) ∧ k ≤ n ∧ OwX fcC 4 178 wr w.heap.size v (P1 ++ (X.take k).flatMap labsN) ∧ wr.heap[w.heap.size]? = some go0 ∧ Below w.heap.size w wr) (fun _ i _ => n - (intOf i).toNat)
      case atStart => exact ⟨0, _, rfl, rfl, Nat.zero_le _, HO.out.le (by rw [List.take_zero]; simp), HG.out, HB.out⟩
      case round =>
        clear HG HB HO hlt hk
        obtain ⟨k, v, rfl, rfl, hk, ho, hg, hb⟩ := hrel
        obtain ⟨av, nv, cv, rfl⟩ := ho.sl3
        have HO := Lib.hid ho
        have HG := Lib.hid hg
        have HB := Lib.hid hb
        clear ho hg hb
        by_cases hlt : k < n
        · have hd1 : decide ((k : Int) < (n : Int)) = true := decide_eq_true (by omega)
          have hi0 : (0 : Int) ≤ (k : Int) := by omega
          have hkl : k < X.length := by have := HL.out.1; omega
          obtain ⟨x, hxx⟩ : ∃ x, x = X[k] := ⟨_, rfl⟩
          have HK := Lib.hid (show X[k]? = some x by rw [List.getElem?_eq_getElem hkl, hxx])
          have HTA := Lib.hid (fmap_take labsN X k HK.out)
          have hsm := HSM.out.nd x (by rw [hxx]; exact List.getElem_mem hkl)
          have HLE := Lib.hid (show (P1 ++ (X.take k).flatMap labsN).length ≤ 900 by
            have q := fmap_len labsN (X.take k) (fun y hy => by have q := (HSM.out.nd y (List.mem_of_mem_take hy)).2.l; unfold labsN; rw [List.length_map]; exact q)
            have q2 := HP1.out
            rw [List.length_take] at q
            rw [List.length_append]
            omega)
          clear hxx
          obtain ⟨b1, o1, L1, q1, r1, M1, rfl, x0, x1, x2, hp1⟩ := H.out.node hlt HK.out
          obtain ⟨i, ss, ps⟩ := x
          dsimp only at x0 x1 x2 hp1 hsm
          have x0 : wr.cell? ⟨b1, o1 + k * 3, none⟩ = some (.string i) := (HB.out.cell (p := ⟨b1, o1 + k * 3, none⟩) (World.block_lt_of_cell? w _ x0)).trans x0
          have x1 : wr.cell? ⟨b1, o1 + k * 3 + 1, none⟩ = some (.slice L1 ss.length q1) := (HB.out.cell (p := ⟨b1, o1 + k * 3 + 1, none⟩) (World.block_lt_of_cell? w _ x1)).trans x1
          have x2 : wr.cell? ⟨b1, o1 + k * 3 + 2, none⟩ = some (.slice M1 ps.length r1) := (HB.out.cell (p := ⟨b1, o1 + k * 3 + 2, none⟩) (World.block_lt_of_cell? w _ x2)).trans x2
          have HP1 := Lib.hid hp1
          have HS1 := Lib.hid hsm.2
          have hs8 : ss.length ≤ 8 := HS1.out.l
          have hp8 : ps.length ≤ 8 := HS1.out.pl
          clear hp1 hsm
          generalize hns : ss.length = ns at *
          generalize hnp : ps.length = np at *
          have HN1 := Lib.hid hns
          have HN2 := Lib.hid hnp
          clear hns hnp
          obtain ⟨Lk, hLk⟩ : ∃ Lk, Lk = P1 ++ (X.take k).flatMap labsN := ⟨_, rfl⟩
          have HLK := Lib.hid hLk
          rw [← hLk] at HO HLE
          clear hLk
          have HX := Lib.hid (blk_new wr (.cells #[.string i, .slice L1 ns q1, .slice M1 np r1] 81 (0, 0)))
          have HBn := Lib.hid ((Below.refl wr.heap.size wr).alloc (Nat.le_refl _) (.cells #[.string i, .slice L1 ns q1, .slice M1 np r1] 81 (0, 0)))
          have HO1 := Lib.hid (HO.out.kept HBn.out)
          have HG1 := Lib.hid (blk_below HG.out HBn.out)
          have HB1 := Lib.hid (HB.out.trans (HBn.out.mono HB.out.size))
          have y1 : (wr.alloc (.cells #[.string i, .slice L1 ns q1, .slice M1 np r1] 81 (0, 0))).cell? ⟨wr.heap.size, 1, none⟩ = some (.slice L1 ns q1) := by rw [cell_of_row _ _ _ _ _ _ HX.out]; rfl
          go_wp2_with fail
          clear x0 x1 x2 y1
          obtain ⟨X0, hX0⟩ : ∃ X0, X0 = wr.heap.size := ⟨_, rfl⟩
          rw [← hX0] at HX
          try rw [← hX0]
          obtain ⟨ob0, hob⟩ : ∃ o : Obj, o = (.cells #[.string i, .slice L1 ns q1, .slice M1 np r1] 81 (0, 0)) := ⟨_, rfl⟩
          have HY := Lib.hid (fun (W : World) (q : W.heap[X0]? = some ob0) => show W.cell? ⟨X0, 0, none⟩ = some (.string i) from (cell_of_row _ _ _ _ _ _ (show W.heap[X0]? = some (.cells #[.string i, .slice L1 ns q1, .slice M1 np r1] 81 (0, 0)) by rw [← hob]; exact q)).trans rfl)
          have HOT := Lib.hid (show ∃ cs fr, ob0 = .cells cs 81 fr from ⟨_, _, hob⟩)
          have HXs : Hid ((wr.alloc (.cells #[.string i, .slice L1 ns q1, .slice M1 np r1] 81 (0, 0))).heap[X0]? = some ob0) := Lib.hid (by rw [hob]; exact HX.out)
          clear hob HX
          go_loopw [3, 51] (fun s i2 wz => ∃ (q : Nat) (v : Value), s = v ∧ i2 = .int .i64 (q : Int) ∧ q ≤ ns ∧ OwX fcC 4 178 wz w.heap.size v (Lk ++ (ss.take q).map (lF 2 i)) ∧ wz.heap[w.heap.size]? = some go0 ∧ wz.heap[X0]? = some ob0 ∧ Below w.heap.size w wz) (fun _ i2 _ => ns - (intOf i2).toNat)
          case atStart => exact ⟨0, _, rfl, rfl, Nat.zero_le _, HO1.out.le (by rw [List.take_zero]; simp), HG1.out, HXs.out, HB1.out⟩
          case round =>
            clear HG HB HO HG1 HB1 HO1 HXs HBn hX0
            skip
            obtain ⟨q, v, rfl, rfl, hq, ho, hg, hx, hb⟩ := hrel
            obtain ⟨av, nv, cv, rfl⟩ := ho.sl3
            have HO := Lib.hid ho
            have HG := Lib.hid hg
            have HX := Lib.hid hx
            have HB := Lib.hid hb
            clear ho hg hx hb
            by_cases hlq : q < ns
            · obtain ⟨Lq, hLq⟩ : ∃ Lq, Lq = Lk ++ (ss.take q).map (lF 2 i) := ⟨_, rfl⟩
              have HLQ := Lib.hid hLq
              have HLF := Lib.hid (show Lq.length ≤ Lk.length + 8 by rw [hLq, List.length_append, List.length_map, List.length_take]; have := HN1.out; omega)
              rw [← hLq] at HO
              clear hLq
              have hd2 : decide ((q : Int) < (ns : Int)) = true := decide_eq_true (by omega)
              have hi2 : (0 : Int) ≤ (q : Int) := by omega
              have hql : q < ss.length := by have := HN1.out; omega
              obtain ⟨b2, o2, rfl, hc⟩ := (HP1.out.l.later HB.out).2 (by omega)
              have hc1 := hc q hql
              obtain ⟨s, hs⟩ : ∃ s, s = ss[q] := ⟨_, rfl⟩
              have HTQ := Lib.hid (map_take1 (lF 2 i) ss q (show ss[q]? = some s by rw [List.getElem?_eq_getElem hql, hs]))
              rw [← hs] at hc1
              clear hs hc
              have y0 : wr.cell? ⟨X0, 0, none⟩ = some (.string i) := HY.out _ HX.out
              have HOF := Lib.hid (HO.out.alloc (.cells #[.int .i64 2, .string i, .string s, .string ⟨#[]⟩] 178 (0, 0)))
              have HGF := Lib.hid (blk_alloc HG.out (.cells #[.int .i64 2, .string i, .string s, .string ⟨#[]⟩] 178 (0, 0)))
              have HXF := Lib.hid (blk_alloc HX.out (.cells #[.int .i64 2, .string i, .string s, .string ⟨#[]⟩] 178 (0, 0)))
              have HBF := Lib.hid (HB.out.alloc HB.out.size (.cells #[.int .i64 2, .string i, .string s, .string ⟨#[]⟩] 178 (0, 0)))
              go_wp2_with (at_builtin; refine wpList_appX rfl (.tmp 55) (.tmp 60) 71 178 _ 56 rfl Try.underlying71 info_fcB rfl (by omega) (by omega) fcC_len fcC_one w.heap.size w HBF.out (by have := HB.out.size; simp at this ⊢ <;> omega) (.slice av nv cv) _ rfl HOF.out (wr.heap.size) 1 (2, i, s, ⟨#[]⟩) #[.int .i64 2, .string i, .string s, .string ⟨#[]⟩] 178 (0, 0) rfl (blk_new wr _) rfl (by have := HLE.out; have := HLF.out; omega) ?_)
              intro v2 w12 HO2 HB2 HZ2 HG2
              have hv2 := HO2.out.one
              have HGN := Lib.hid (boxO (T := 65) (by rw [HGO.out]; exact ⟨_, _, rfl⟩) HOF.out HG2.out HGF.out (by decide))
              have HXN := Lib.hid (boxO HOT.out HOF.out HG2.out HXF.out (by decide))
              go_wp2_with fail
              go_roundw
              case rel => exact ⟨q + 1, v2, rfl, by go_num, by omega, HO2.out.le (by rw [HLQ.out, HTQ.out, List.append_assoc]; rfl), HGN.out, HXN.out, HB2.out⟩
              case measure => simp [intOf] <;> omega
            · have hd2 : decide ((q : Int) < (ns : Int)) = false := decide_eq_false (by omega)
              have HTQ := Lib.hid (show ss.take q = ss from List.take_of_length_le (by have := HN1.out; omega))
              rw [HTQ.out] at HO
              go_wp2_with fail
              go_roundw
              case rel => exact ⟨k + 1, .slice av nv cv, rfl, by go_num, by omega, HO.out.le (by rw [HTA.out, HLK.out, List.append_assoc]; rfl), HG.out, HB.out⟩
              case measure => simp [intOf] <;> omega
        · have hd1 : decide ((k : Int) < (n : Int)) = false := decide_eq_false (by omega)
          have HT1 := Lib.hid (show X.take k = X from List.take_of_length_le (by have := HL.out.1; omega))
          rw [HT1.out] at HO
          obtain ⟨P2, hP2⟩ : ∃ P2, P2 = P1 ++ X.flatMap labsN := ⟨_, rfl⟩
          have HP2 := Lib.hid (show P2.length ≤ 900 by
            have q := fmap_len labsN X (fun y hy => by have q := (HSM.out.nd y hy).2.l; unfold labsN; rw [List.length_map]; exact q)
            have q2 := HP1.out
            have q3 := HL.out.1
            rw [hP2, List.length_append]
            omega)
          have HPE2 := Lib.hid hP2
          rw [← hP2] at HO
          clear hP2 HT1
          have c0 : wr.cell? ⟨w.heap.size, 0, none⟩ = some (.slice A n c) := by rw [cell_of_row _ _ _ _ _ _ (show wr.heap[w.heap.size]? = some (.cells #[.slice A n c, .slice A2 n2 c2] 65 (0, 0)) by rw [← HGO.out]; exact HG.out)]; rfl
          have c1 : wr.cell? ⟨w.heap.size, 1, none⟩ = some (.slice A2 n2 c2) := by rw [cell_of_row _ _ _ _ _ _ (show wr.heap[w.heap.size]? = some (.cells #[.slice A n c, .slice A2 n2 c2] 65 (0, 0)) by rw [← HGO.out]; exact HG.out)]; rfl
          go_wp2_with fail
          clear c0 c1 hd1
          go_loopw [3, 67] (fun s i wr => ∃ (k : Nat) (v : Value), s = v ∧ i = .int .i64 (k : Int) ∧ k ≤ n ∧ OwX fcC 4 178 wr w.heap.size v (P2 ++ (X.take k).flatMap prosN) ∧ wr.heap[w.heap.size]? = some go0 ∧ Below w.heap.size w wr) (fun _ i _ => n - (intOf i).toNat)
          case atStart => exact ⟨0, _, rfl, rfl, Nat.zero_le _, HO.out.le (by rw [List.take_zero]; simp), HG.out, HB.out⟩
          case round =>
            clear HG HB HO hlt hk
            obtain ⟨k, v, rfl, rfl, hk, ho, hg, hb⟩ := hrel
            obtain ⟨av, nv, cv, rfl⟩ := ho.sl3
            have HO := Lib.hid ho
            have HG := Lib.hid hg
            have HB := Lib.hid hb
            clear ho hg hb
            by_cases hlt : k < n
            · have hd1 : decide ((k : Int) < (n : Int)) = true := decide_eq_true (by omega)
              have hi0 : (0 : Int) ≤ (k : Int) := by omega
              have hkl : k < X.length := by have := HL.out.1; omega
              obtain ⟨x, hxx⟩ : ∃ x, x = X[k] := ⟨_, rfl⟩
              have HK := Lib.hid (show X[k]? = some x by rw [List.getElem?_eq_getElem hkl, hxx])
              have HTA := Lib.hid (fmap_take prosN X k HK.out)
              have hsm := HSM.out.nd x (by rw [hxx]; exact List.getElem_mem hkl)
              have HLE := Lib.hid (show (P2 ++ (X.take k).flatMap prosN).length ≤ 1700 by
                have q := fmap_len prosN (X.take k) (fun y hy => by have q := (HSM.out.nd y (List.mem_of_mem_take hy)).2.pl; unfold prosN; rw [List.length_map]; exact q)
                have q2 := HP2.out
                rw [List.length_take] at q
                rw [List.length_append]
                omega)
              clear hxx
              obtain ⟨b1, o1, L1, q1, r1, M1, rfl, x0, x1, x2, hp1⟩ := H.out.node hlt HK.out
              obtain ⟨i, ss, ps⟩ := x
              dsimp only at x0 x1 x2 hp1 hsm
              have x0 : wr.cell? ⟨b1, o1 + k * 3, none⟩ = some (.string i) := (HB.out.cell (p := ⟨b1, o1 + k * 3, none⟩) (World.block_lt_of_cell? w _ x0)).trans x0
              have x1 : wr.cell? ⟨b1, o1 + k * 3 + 1, none⟩ = some (.slice L1 ss.length q1) := (HB.out.cell (p := ⟨b1, o1 + k * 3 + 1, none⟩) (World.block_lt_of_cell? w _ x1)).trans x1
              have x2 : wr.cell? ⟨b1, o1 + k * 3 + 2, none⟩ = some (.slice M1 ps.length r1) := (HB.out.cell (p := ⟨b1, o1 + k * 3 + 2, none⟩) (World.block_lt_of_cell? w _ x2)).trans x2
              have HP1 := Lib.hid hp1
              have HS1 := Lib.hid hsm.2
              have hs8 : ss.length ≤ 8 := HS1.out.l
              have hp8 : ps.length ≤ 8 := HS1.out.pl
              clear hp1 hsm
              generalize hns : ss.length = ns at *
              generalize hnp : ps.length = np at *
              have HN1 := Lib.hid hns
              have HN2 := Lib.hid hnp
              clear hns hnp
              obtain ⟨Lk, hLk⟩ : ∃ Lk, Lk = P2 ++ (X.take k).flatMap prosN := ⟨_, rfl⟩
              have HLK := Lib.hid hLk
              rw [← hLk] at HO HLE
              clear hLk
              have HX := Lib.hid (blk_new wr (.cells #[.string i, .slice L1 ns q1, .slice M1 np r1] 81 (0, 0)))
              have HBn := Lib.hid ((Below.refl wr.heap.size wr).alloc (Nat.le_refl _) (.cells #[.string i, .slice L1 ns q1, .slice M1 np r1] 81 (0, 0)))
              have HO1 := Lib.hid (HO.out.kept HBn.out)
              have HG1 := Lib.hid (blk_below HG.out HBn.out)
              have HB1 := Lib.hid (HB.out.trans (HBn.out.mono HB.out.size))
              have y2 : (wr.alloc (.cells #[.string i, .slice L1 ns q1, .slice M1 np r1] 81 (0, 0))).cell? ⟨wr.heap.size, 2, none⟩ = some (.slice M1 np r1) := by rw [cell_of_row _ _ _ _ _ _ HX.out]; rfl
              go_wp2_with fail
              clear x0 x1 x2 y2
              obtain ⟨X0, hX0⟩ : ∃ X0, X0 = wr.heap.size := ⟨_, rfl⟩
              rw [← hX0] at HX
              try rw [← hX0]
              obtain ⟨ob0, hob⟩ : ∃ o : Obj, o = (.cells #[.string i, .slice L1 ns q1, .slice M1 np r1] 81 (0, 0)) := ⟨_, rfl⟩
              have HY := Lib.hid (fun (W : World) (q : W.heap[X0]? = some ob0) => show W.cell? ⟨X0, 0, none⟩ = some (.string i) from (cell_of_row _ _ _ _ _ _ (show W.heap[X0]? = some (.cells #[.string i, .slice L1 ns q1, .slice M1 np r1] 81 (0, 0)) by rw [← hob]; exact q)).trans rfl)
              have HOT := Lib.hid (show ∃ cs fr, ob0 = .cells cs 81 fr from ⟨_, _, hob⟩)
              have HXs : Hid ((wr.alloc (.cells #[.string i, .slice L1 ns q1, .slice M1 np r1] 81 (0, 0))).heap[X0]? = some ob0) := Lib.hid (by rw [hob]; exact HX.out)
              clear hob HX
              go_loopw [3, 74] (fun s i2 wz => ∃ (q : Nat) (v : Value), s = v ∧ i2 = .int .i64 (q : Int) ∧ q ≤ np ∧ OwX fcC 4 178 wz w.heap.size v (Lk ++ (ps.take q).map (pF 3 i)) ∧ wz.heap[w.heap.size]? = some go0 ∧ wz.heap[X0]? = some ob0 ∧ Below w.heap.size w wz) (fun _ i2 _ => np - (intOf i2).toNat)
              case atStart => exact ⟨0, _, rfl, rfl, Nat.zero_le _, HO1.out.le (by rw [List.take_zero]; simp), HG1.out, HXs.out, HB1.out⟩
              case round =>
                clear HG HB HO HG1 HB1 HO1 HXs HBn hX0
                skip
                obtain ⟨q, v, rfl, rfl, hq, ho, hg, hx, hb⟩ := hrel
                obtain ⟨av, nv, cv, rfl⟩ := ho.sl3
                have HO := Lib.hid ho
                have HG := Lib.hid hg
                have HX := Lib.hid hx
                have HB := Lib.hid hb
                clear ho hg hx hb
                by_cases hlq : q < np
                · obtain ⟨Lq, hLq⟩ : ∃ Lq, Lq = Lk ++ (ps.take q).map (pF 3 i) := ⟨_, rfl⟩
                  have HLQ := Lib.hid hLq
                  have HLF := Lib.hid (show Lq.length ≤ Lk.length + 8 by rw [hLq, List.length_append, List.length_map, List.length_take]; have := HN2.out; omega)
                  rw [← hLq] at HO
                  clear hLq
                  have hd2 : decide ((q : Int) < (np : Int)) = true := decide_eq_true (by omega)
                  have hi2 : (0 : Int) ≤ (q : Int) := by omega
                  obtain ⟨b2, o2, hql, rfl, hbb, _⟩ := (HP1.out.p.below HB.out).at hlq
                  obtain ⟨x, hx⟩ : ∃ x, x = ps[q] := ⟨_, rfl⟩
                  have HXP := Lib.hid (show ps[q]? = some x by rw [List.getElem?_eq_getElem hql, hx])
                  have HTQ := Lib.hid (map_take1 (pF 3 i) ps q HXP.out)
                  obtain ⟨_, z2, z3, z4⟩ := HS1.out.p x (by rw [hx]; exact List.getElem_mem hql)
                  obtain ⟨s, a, d, t⟩ := x
                  have HVP := Lib.hid (fun W : World => rputV_any a d t W z3 z4 (by have : t.size ≤ 64 := z2; omega))
                  obtain ⟨u, hu⟩ : ∃ u, u = vput a d t := ⟨_, rfl⟩
                  have HU := Lib.hid hu
                  rw [← hu] at HVP
                  clear hx z2 z3 z4 hu hbb
                  have hc0 : wr.cell? ⟨b2, o2 + q * 4, none⟩ = some (.string s) := (HP1.out.p.below HB.out).cellAt HXP.out hlq 0 _ rfl
                  have hc1 : wr.cell? ⟨b2, o2 + q * 4 + 1, none⟩ = some (.int .i64 a) := (HP1.out.p.below HB.out).cellAt HXP.out hlq 1 _ rfl
                  have hc2 : wr.cell? ⟨b2, o2 + q * 4 + 2, none⟩ = some (.int .i64 d) := (HP1.out.p.below HB.out).cellAt HXP.out hlq 2 _ rfl
                  have hc3 : wr.cell? ⟨b2, o2 + q * 4 + 3, none⟩ = some (.string t) := (HP1.out.p.below HB.out).cellAt HXP.out hlq 3 _ rfl
                  have HR := Lib.hid (blk_new wr (.cells #[.string s, .int .i64 a, .int .i64 d, .string t] 187 (0, 0)))
                  have HBp := Lib.hid ((Below.refl wr.heap.size wr).alloc (Nat.le_refl _) (.cells #[.string s, .int .i64 a, .int .i64 d, .string t] 187 (0, 0)))
                  have HO1 := Lib.hid (HO.out.kept HBp.out)
                  have HG1 := Lib.hid (blk_below HG.out HBp.out)
                  have HX1 := Lib.hid (blk_below HX.out HBp.out)
                  have HB1 := Lib.hid (HB.out.trans (HBp.out.mono HB.out.size))
                  go_upto_region 24 with (fail)
                  obtain ⟨v, hv⟩ : ∃ v, v = wr.alloc (.cells #[.string s, .int .i64 a, .int .i64 d, .string t] 187 (0, 0)) := ⟨_, rfl⟩
                  obtain ⟨R0, hR0⟩ : ∃ R0, R0 = wr.heap.size := ⟨_, rfl⟩
                  rw [← hv, ← hR0] at HR
                  rw [← hv] at HO1 HG1 HX1 HB1
                  try rw [← hv]
                  try rw [← hR0]
                  clear hv hR0 HBp hc0 hc1 hc2 hc3
                  have HXd : Hid (v.drew.heap[X0]? = some ob0) := Lib.hid HX1.out
                  have HRd : Hid (v.drew.heap[R0]? = some (.cells #[.string s, .int .i64 a, .int .i64 d, .string t] 187 (0, 0))) := Lib.hid HR.out
                  have y0 : v.drew.cell? ⟨X0, 0, none⟩ = some (.string i) := HY.out _ HXd.out
                  have y1 : v.drew.cell? ⟨R0, 0, none⟩ = some (.string s) := (cell_of_row _ _ _ _ _ _ HRd.out).trans rfl
                  have y2 : v.drew.cell? ⟨R0, 1, none⟩ = some (.int .i64 a) := (cell_of_row _ _ _ _ _ _ HRd.out).trans rfl
                  have y3 : v.drew.cell? ⟨R0, 2, none⟩ = some (.int .i64 d) := (cell_of_row _ _ _ _ _ _ HRd.out).trans rfl
                  have y4 : v.drew.cell? ⟨R0, 3, none⟩ = some (.string t) := (cell_of_row _ _ _ _ _ _ HRd.out).trans rfl
                  go_region_held3 (fun w9 => w9.cell? ⟨X0, 0, none⟩ = some (.string i) ∧ w9.cell? ⟨R0, 0, none⟩ = some (.string s) ∧ w9.cell? ⟨R0, 1, none⟩ = some (.int .i64 a) ∧ w9.cell? ⟨R0, 2, none⟩ = some (.int .i64 d) ∧ w9.cell? ⟨R0, 3, none⟩ = some (.string t))
                    (first | exact ⟨y0, y1, y2, y3, y4⟩ | exact ⟨u0, u1, u2, u3, u4⟩ | exact ⟨m0, m1, m2, m3, m4⟩ | go_keep)
                    (first
                    | (go_at_call 132; refine (HVP.out _).mono ?_; rintro e w5 ⟨rfl, hb5⟩; have HO5 := Lib.hid (HO1.out.drew.kept hb5); have HG5 := Lib.hid (blk_below (show v.drew.heap[w.heap.size]? = _ from HG1.out) hb5); have HX5 := Lib.hid (blk_below HXd.out hb5); have HR5 := Lib.hid (blk_below HRd.out hb5); have HB5 := Lib.hid (HB1.out.drew.trans (hb5.mono HB1.out.size)); have u0 : w5.cell? ⟨X0, 0, none⟩ = some (.string i) := HY.out _ HX5.out; have u1 : w5.cell? ⟨R0, 0, none⟩ = some (.string s) := (cell_of_row _ _ _ _ _ _ HR5.out).trans rfl; have u2 : w5.cell? ⟨R0, 1, none⟩ = some (.int .i64 a) := (cell_of_row _ _ _ _ _ _ HR5.out).trans rfl; have u3 : w5.cell? ⟨R0, 2, none⟩ = some (.int .i64 d) := (cell_of_row _ _ _ _ _ _ HR5.out).trans rfl; have u4 : w5.cell? ⟨R0, 3, none⟩ = some (.string t) := (cell_of_row _ _ _ _ _ _ HR5.out).trans rfl; clear hb5)
                    | (refine step_appX rfl (.tmp 78) (.tmp 87) 71 178 _ 56 rfl Try.underlying71 info_fcB rfl (by omega) (by omega) fcC_len fcC_one w.heap.size w (HB5.out.alloc HB5.out.size (.cells #[.int .i64 3, .string i, .string s, .string u] 178 (0, 0))) (by have := HB5.out.size; simp at this ⊢ <;> omega) (.slice av nv cv) _ rfl (HO5.out.alloc (.cells #[.int .i64 3, .string i, .string s, .string u] 178 (0, 0))) w5.heap.size 1 (3, i, s, u) #[.int .i64 3, .string i, .string s, .string u] 178 (0, 0) rfl (blk_new w5 _) rfl (by have := HLE.out; have := HLF.out; omega) ?_; intro v2 w6 HO6 HB6 HZ6 HG6; have HGN := Lib.hid (boxO (T := 65) (by rw [HGO.out]; exact ⟨_, _, rfl⟩) (HO5.out.alloc (.cells #[.int .i64 3, .string i, .string s, .string u] 178 (0, 0))) HG6.out (blk_alloc HG5.out (.cells #[.int .i64 3, .string i, .string s, .string u] 178 (0, 0))) (by decide)); have HXN := Lib.hid (boxO HOT.out (HO5.out.alloc (.cells #[.int .i64 3, .string i, .string s, .string u] 178 (0, 0))) HG6.out (blk_alloc HX5.out (.cells #[.int .i64 3, .string i, .string s, .string u] 178 (0, 0))) (by decide)); have HRN := Lib.hid ((HO5.out.alloc (.cells #[.int .i64 3, .string i, .string s, .string u] 178 (0, 0))).box HG6.out (blk_alloc HR5.out (.cells #[.int .i64 3, .string i, .string s, .string u] 178 (0, 0))) (Or.inl (by decide))); obtain ⟨a6, n6, c6, rfl⟩ := HO6.out.sl3; have m0 : w6.cell? ⟨X0, 0, none⟩ = some (.string i) := HY.out _ HXN.out; have m1 : w6.cell? ⟨R0, 0, none⟩ = some (.string s) := (cell_of_row _ _ _ _ _ _ HRN.out).trans rfl; have m2 : w6.cell? ⟨R0, 1, none⟩ = some (.int .i64 a) := (cell_of_row _ _ _ _ _ _ HRN.out).trans rfl; have m3 : w6.cell? ⟨R0, 2, none⟩ = some (.int .i64 d) := (cell_of_row _ _ _ _ _ _ HRN.out).trans rfl; have m4 : w6.cell? ⟨R0, 3, none⟩ = some (.string t) := (cell_of_row _ _ _ _ _ _ HRN.out).trans rfl))
                  all_goals
                    go_wp2_with fail
                    go_roundw
                    case rel => exact ⟨q + 1, .slice a6 n6 c6, rfl, by go_num, by omega, HO6.out.le (by rw [HLQ.out, HTQ.out, List.append_assoc, HU.out]; rfl), HGN.out, HXN.out, HB6.out⟩
                    case measure => simp [intOf] <;> omega
                · have hd2 : decide ((q : Int) < (np : Int)) = false := decide_eq_false (by omega)
                  have HTQ := Lib.hid (show ps.take q = ps from List.take_of_length_le (by have := HN2.out; omega))
                  rw [HTQ.out] at HO
                  go_wp2_with fail
                  go_roundw
                  case rel => exact ⟨k + 1, .slice av nv cv, rfl, by go_num, by omega, HO.out.le (by rw [HTA.out, HLK.out, List.append_assoc]; rfl), HG.out, HB.out⟩
                  case measure => simp [intOf] <;> omega
            · have hd1 : decide ((k : Int) < (n : Int)) = false := decide_eq_false (by omega)
              have HT2 := Lib.hid (show X.take k = X from List.take_of_length_le (by have := HL.out.1; omega))
              rw [HT2.out] at HO
              obtain ⟨P3, hP3⟩ : ∃ P3, P3 = P2 ++ X.flatMap prosN := ⟨_, rfl⟩
              have HP3 := Lib.hid (show P3.length ≤ 1700 by
                have q := fmap_len prosN X (fun y hy => by have q := (HSM.out.nd y hy).2.pl; unfold prosN; rw [List.length_map]; exact q)
                have q2 := HP2.out
                have q3 := HL.out.1
                rw [hP3, List.length_append]
                omega)
              have HPE3 := Lib.hid hP3
              rw [← hP3] at HO
              clear hP3 HT2
              have c0 : wr.cell? ⟨w.heap.size, 0, none⟩ = some (.slice A n c) := by rw [cell_of_row _ _ _ _ _ _ (show wr.heap[w.heap.size]? = some (.cells #[.slice A n c, .slice A2 n2 c2] 65 (0, 0)) by rw [← HGO.out]; exact HG.out)]; rfl
              have c1 : wr.cell? ⟨w.heap.size, 1, none⟩ = some (.slice A2 n2 c2) := by rw [cell_of_row _ _ _ _ _ _ (show wr.heap[w.heap.size]? = some (.cells #[.slice A n c, .slice A2 n2 c2] 65 (0, 0)) by rw [← HGO.out]; exact HG.out)]; rfl
              go_wp2_with fail
              clear c0 c1 hd1
              go_loopw [3, 94] (fun s i wr => ∃ (k : Nat) (v : Value), s = v ∧ i = .int .i64 (k : Int) ∧ k ≤ n2 ∧ OwX fcC 4 178 wr w.heap.size v (P3 ++ (Y.take k).map eF) ∧ wr.heap[w.heap.size]? = some go0 ∧ Below w.heap.size w wr) (fun _ i _ => n2 - (intOf i).toNat)
              case atStart => exact ⟨0, _, rfl, rfl, Nat.zero_le _, HO.out.le (by rw [List.take_zero]; simp), HG.out, HB.out⟩
              case round =>
                clear HG HB HO hlt hk
                obtain ⟨k, v, rfl, rfl, hk, ho, hg, hb⟩ := hrel
                obtain ⟨av, nv, cv, rfl⟩ := ho.sl3
                have HO := Lib.hid ho
                have HG := Lib.hid hg
                have HB := Lib.hid hb
                clear ho hg hb
                by_cases hlt : k < n2
                · have hd1 : decide ((k : Int) < (n2 : Int)) = true := decide_eq_true (by omega)
                  have hi0 : (0 : Int) ≤ (k : Int) := by omega
                  have hkl : k < Y.length := by have := HL.out.2; omega
                  obtain ⟨x, hxx⟩ : ∃ x, x = Y[k] := ⟨_, rfl⟩
                  have HK := Lib.hid (show Y[k]? = some x by rw [List.getElem?_eq_getElem hkl, hxx])
                  have HTA := Lib.hid (map_take1 eF Y k HK.out)
                  have hsm := HSM.out.ed x (by rw [hxx]; exact List.getElem_mem hkl)
                  have HLE := Lib.hid (show (P3 ++ (Y.take k).map eF).length ≤ 1800 by
                    have q2 := HP3.out
                    rw [List.length_append, List.length_map, List.length_take]
                    omega)
                  clear hxx
                  obtain ⟨b1, o1, L1, q1, r1, M1, rfl, x0, x1, x2, x3, x4, hp1⟩ := H.out.edge hlt HK.out
                  obtain ⟨i, f, g, ss, ps⟩ := x
                  dsimp only at x0 x1 x2 x3 x4 hp1 hsm
                  have x0 : wr.cell? ⟨b1, o1 + k * 5, none⟩ = some (.string i) := (HB.out.cell (p := ⟨b1, o1 + k * 5, none⟩) (World.block_lt_of_cell? w _ x0)).trans x0
                  have x1 : wr.cell? ⟨b1, o1 + k * 5 + 1, none⟩ = some (.string f) := (HB.out.cell (p := ⟨b1, o1 + k * 5 + 1, none⟩) (World.block_lt_of_cell? w _ x1)).trans x1
                  have x2 : wr.cell? ⟨b1, o1 + k * 5 + 2, none⟩ = some (.string g) := (HB.out.cell (p := ⟨b1, o1 + k * 5 + 2, none⟩) (World.block_lt_of_cell? w _ x2)).trans x2
                  have x3 : wr.cell? ⟨b1, o1 + k * 5 + 3, none⟩ = some (.slice L1 ss.length q1) := (HB.out.cell (p := ⟨b1, o1 + k * 5 + 3, none⟩) (World.block_lt_of_cell? w _ x3)).trans x3
                  have x4 : wr.cell? ⟨b1, o1 + k * 5 + 4, none⟩ = some (.slice M1 ps.length r1) := (HB.out.cell (p := ⟨b1, o1 + k * 5 + 4, none⟩) (World.block_lt_of_cell? w _ x4)).trans x4
                  have HP1 := Lib.hid hp1
                  have HS1 := Lib.hid hsm.2.2.2
                  have hf12 := hsm.2.1
                  have hg12 := hsm.2.2.1
                  have hh1 : ¬ 9223372036854775807 < f.size + 1 := by omega
                  have hh2 : ¬ 9223372036854775807 < f.size + 1 + g.size := by omega
                  have hs8 : ss.length ≤ 8 := HS1.out.l
                  have hp8 : ps.length ≤ 8 := HS1.out.pl
                  clear hp1 hsm
                  generalize hns : ss.length = ns at *
                  generalize hnp : ps.length = np at *
                  have HN1 := Lib.hid hns
                  have HN2 := Lib.hid hnp
                  clear hns hnp
                  obtain ⟨Lk, hLk⟩ : ∃ Lk, Lk = P3 ++ (Y.take k).map eF := ⟨_, rfl⟩
                  have HLK := Lib.hid hLk
                  rw [← hLk] at HO HLE
                  clear hLk
                  have HX := Lib.hid (blk_new wr (.cells #[.string i, .string f, .string g, .slice L1 ns q1, .slice M1 np r1] 85 (0, 0)))
                  have HBn := Lib.hid ((Below.refl wr.heap.size wr).alloc (Nat.le_refl _) (.cells #[.string i, .string f, .string g, .slice L1 ns q1, .slice M1 np r1] 85 (0, 0)))
                  have HO1 := Lib.hid (HO.out.kept HBn.out)
                  have HG1 := Lib.hid (blk_below HG.out HBn.out)
                  have HB1 := Lib.hid (HB.out.trans (HBn.out.mono HB.out.size))
                  have y0 : (wr.alloc (.cells #[.string i, .string f, .string g, .slice L1 ns q1, .slice M1 np r1] 85 (0, 0))).cell? ⟨wr.heap.size, 0, none⟩ = some (.string i) := by rw [cell_of_row _ _ _ _ _ _ HX.out]; rfl
                  have y1 : (wr.alloc (.cells #[.string i, .string f, .string g, .slice L1 ns q1, .slice M1 np r1] 85 (0, 0))).cell? ⟨wr.heap.size, 1, none⟩ = some (.string f) := by rw [cell_of_row _ _ _ _ _ _ HX.out]; rfl
                  have y2 : (wr.alloc (.cells #[.string i, .string f, .string g, .slice L1 ns q1, .slice M1 np r1] 85 (0, 0))).cell? ⟨wr.heap.size, 2, none⟩ = some (.string g) := by rw [cell_of_row _ _ _ _ _ _ HX.out]; rfl
                  have HGF : Hid (((wr.alloc (.cells #[.string i, .string f, .string g, .slice L1 ns q1, .slice M1 np r1] 85 (0, 0))).alloc (.cells #[.int .i64 4, .string i, .string ⟨#[]⟩, .string (f ++ ⟨#[0]⟩ ++ g)] 178 (0, 0))).heap[w.heap.size]? = some go0) := Lib.hid (blk_alloc HG1.out (.cells #[.int .i64 4, .string i, .string ⟨#[]⟩, .string (f ++ ⟨#[0]⟩ ++ g)] 178 (0, 0)))
                  have HOF := Lib.hid (HO1.out.alloc (.cells #[.int .i64 4, .string i, .string ⟨#[]⟩, .string (f ++ ⟨#[0]⟩ ++ g)] 178 (0, 0)))
                  have hrn : ((wr.alloc (.cells #[.string i, .string f, .string g, .slice L1 ns q1, .slice M1 np r1] 85 (0, 0))).alloc (.cells #[.int .i64 4, .string i, .string ⟨#[]⟩, .string (f ++ ⟨#[0]⟩ ++ g)] 178 (0, 0))).heap[wr.heap.size + 1]? = some (.cells #[.int .i64 4, .string i, .string ⟨#[]⟩, .string (f ++ ⟨#[0]⟩ ++ g)] 178 (0, 0)) := blk_newN (by simp)
                  have HBF := Lib.hid (HB1.out.alloc (by have := HB.out.size; simp at this ⊢ <;> omega) (.cells #[.int .i64 4, .string i, .string ⟨#[]⟩, .string (f ++ ⟨#[0]⟩ ++ g)] 178 (0, 0)))
                  go_wp2_with (at_builtin; refine wpList_appX rfl (.tmp 98) (.tmp 108) 71 178 _ 56 rfl Try.underlying71 info_fcB rfl (by omega) (by omega) fcC_len fcC_one w.heap.size w HBF.out (by have := HB.out.size; simp at this ⊢ <;> omega) (.slice av nv cv) _ rfl HOF.out (wr.heap.size + 1) 1 (4, i, ⟨#[]⟩, f ++ ⟨#[0]⟩ ++ g) #[.int .i64 4, .string i, .string ⟨#[]⟩, .string (f ++ ⟨#[0]⟩ ++ g)] 178 (0, 0) rfl hrn rfl (by have := HLE.out; omega) ?_)
                  intro v2 w12 HO2 HB2 HZ2 HG2
                  have hv2 := HO2.out.one
                  have HGN := Lib.hid (boxO (T := 65) (by rw [HGO.out]; exact ⟨_, _, rfl⟩) HOF.out HG2.out HGF.out (by decide))
                  go_wp2_with fail
                  go_roundw
                  case rel => exact ⟨k + 1, v2, rfl, by go_num, by omega, HO2.out.le (by rw [HLK.out, HTA.out, List.append_assoc]; rfl), HGN.out, HB2.out⟩
                  case measure => simp [intOf] <;> omega
                · have hd1 : decide ((k : Int) < (n2 : Int)) = false := decide_eq_false (by omega)
                  have HT3 := Lib.hid (show Y.take k = Y from List.take_of_length_le (by have := HL.out.2; omega))
                  rw [HT3.out] at HO
                  obtain ⟨P4, hP4⟩ : ∃ P4, P4 = P3 ++ Y.map eF := ⟨_, rfl⟩
                  have HP4 := Lib.hid (show P4.length ≤ 1800 by
                    have q2 := HP3.out
                    have q3 := HL.out.2
                    rw [hP4, List.length_append, List.length_map]
                    omega)
                  have HPE4 := Lib.hid hP4
                  rw [← hP4] at HO
                  clear hP4 HT3
                  have c0 : wr.cell? ⟨w.heap.size, 0, none⟩ = some (.slice A n c) := by rw [cell_of_row _ _ _ _ _ _ (show wr.heap[w.heap.size]? = some (.cells #[.slice A n c, .slice A2 n2 c2] 65 (0, 0)) by rw [← HGO.out]; exact HG.out)]; rfl
                  have c1 : wr.cell? ⟨w.heap.size, 1, none⟩ = some (.slice A2 n2 c2) := by rw [cell_of_row _ _ _ _ _ _ (show wr.heap[w.heap.size]? = some (.cells #[.slice A n c, .slice A2 n2 c2] 65 (0, 0)) by rw [← HGO.out]; exact HG.out)]; rfl
                  go_wp2_with fail
                  clear c0 c1 hd1
                  go_loopw [3, 114] (fun s i wr => ∃ (k : Nat) (v : Value), s = v ∧ i = .int .i64 (k : Int) ∧ k ≤ n2 ∧ OwX fcC 4 178 wr w.heap.size v (P4 ++ (Y.take k).flatMap labsE) ∧ wr.heap[w.heap.size]? = some go0 ∧ Below w.heap.size w wr) (fun _ i _ => n2 - (intOf i).toNat)
                  case atStart => exact ⟨0, _, rfl, rfl, Nat.zero_le _, HO.out.le (by rw [List.take_zero]; simp), HG.out, HB.out⟩
                  case round =>
                    clear HG HB HO hlt hk
                    obtain ⟨k, v, rfl, rfl, hk, ho, hg, hb⟩ := hrel
                    obtain ⟨av, nv, cv, rfl⟩ := ho.sl3
                    have HO := Lib.hid ho
                    have HG := Lib.hid hg
                    have HB := Lib.hid hb
                    clear ho hg hb
                    by_cases hlt : k < n2
                    · have hd1 : decide ((k : Int) < (n2 : Int)) = true := decide_eq_true (by omega)
                      have hi0 : (0 : Int) ≤ (k : Int) := by omega
                      have hkl : k < Y.length := by have := HL.out.2; omega
                      obtain ⟨x, hxx⟩ : ∃ x, x = Y[k] := ⟨_, rfl⟩
                      have HK := Lib.hid (show Y[k]? = some x by rw [List.getElem?_eq_getElem hkl, hxx])
                      have HTA := Lib.hid (fmap_take labsE Y k HK.out)
                      have hsm := HSM.out.ed x (by rw [hxx]; exact List.getElem_mem hkl)
                      have HLE := Lib.hid (show (P4 ++ (Y.take k).flatMap labsE).length ≤ 2600 by
                        have q := fmap_len labsE (Y.take k) (fun y hy => by have q := (HSM.out.ed y (List.mem_of_mem_take hy)).2.2.2.l; unfold labsE; rw [List.length_map]; exact q)
                        have q2 := HP4.out
                        rw [List.length_take] at q
                        rw [List.length_append]
                        omega)
                      clear hxx
                      obtain ⟨b1, o1, L1, q1, r1, M1, rfl, x0, x1, x2, x3, x4, hp1⟩ := H.out.edge hlt HK.out
                      obtain ⟨i, f, g, ss, ps⟩ := x
                      dsimp only at x0 x1 x2 x3 x4 hp1 hsm
                      have x0 : wr.cell? ⟨b1, o1 + k * 5, none⟩ = some (.string i) := (HB.out.cell (p := ⟨b1, o1 + k * 5, none⟩) (World.block_lt_of_cell? w _ x0)).trans x0
                      have x1 : wr.cell? ⟨b1, o1 + k * 5 + 1, none⟩ = some (.string f) := (HB.out.cell (p := ⟨b1, o1 + k * 5 + 1, none⟩) (World.block_lt_of_cell? w _ x1)).trans x1
                      have x2 : wr.cell? ⟨b1, o1 + k * 5 + 2, none⟩ = some (.string g) := (HB.out.cell (p := ⟨b1, o1 + k * 5 + 2, none⟩) (World.block_lt_of_cell? w _ x2)).trans x2
                      have x3 : wr.cell? ⟨b1, o1 + k * 5 + 3, none⟩ = some (.slice L1 ss.length q1) := (HB.out.cell (p := ⟨b1, o1 + k * 5 + 3, none⟩) (World.block_lt_of_cell? w _ x3)).trans x3
                      have x4 : wr.cell? ⟨b1, o1 + k * 5 + 4, none⟩ = some (.slice M1 ps.length r1) := (HB.out.cell (p := ⟨b1, o1 + k * 5 + 4, none⟩) (World.block_lt_of_cell? w _ x4)).trans x4
                      have HP1 := Lib.hid hp1
                      have HS1 := Lib.hid hsm.2.2.2
                      have hf12 := hsm.2.1
                      have hg12 := hsm.2.2.1
                      have hh1 : ¬ 9223372036854775807 < f.size + 1 := by omega
                      have hh2 : ¬ 9223372036854775807 < f.size + 1 + g.size := by omega
                      have hs8 : ss.length ≤ 8 := HS1.out.l
                      have hp8 : ps.length ≤ 8 := HS1.out.pl
                      clear hp1 hsm
                      generalize hns : ss.length = ns at *
                      generalize hnp : ps.length = np at *
                      have HN1 := Lib.hid hns
                      have HN2 := Lib.hid hnp
                      clear hns hnp
                      obtain ⟨Lk, hLk⟩ : ∃ Lk, Lk = P4 ++ (Y.take k).flatMap labsE := ⟨_, rfl⟩
                      have HLK := Lib.hid hLk
                      rw [← hLk] at HO HLE
                      clear hLk
                      have HX := Lib.hid (blk_new wr (.cells #[.string i, .string f, .string g, .slice L1 ns q1, .slice M1 np r1] 85 (0, 0)))
                      have HBn := Lib.hid ((Below.refl wr.heap.size wr).alloc (Nat.le_refl _) (.cells #[.string i, .string f, .string g, .slice L1 ns q1, .slice M1 np r1] 85 (0, 0)))
                      have HO1 := Lib.hid (HO.out.kept HBn.out)
                      have HG1 := Lib.hid (blk_below HG.out HBn.out)
                      have HB1 := Lib.hid (HB.out.trans (HBn.out.mono HB.out.size))
                      have y3 : (wr.alloc (.cells #[.string i, .string f, .string g, .slice L1 ns q1, .slice M1 np r1] 85 (0, 0))).cell? ⟨wr.heap.size, 3, none⟩ = some (.slice L1 ns q1) := by rw [cell_of_row _ _ _ _ _ _ HX.out]; rfl
                      go_wp2_with fail
                      clear x0 x1 x2 x3 x4 y3
                      obtain ⟨X0, hX0⟩ : ∃ X0, X0 = wr.heap.size := ⟨_, rfl⟩
                      rw [← hX0] at HX
                      try rw [← hX0]
                      obtain ⟨ob0, hob⟩ : ∃ o : Obj, o = (.cells #[.string i, .string f, .string g, .slice L1 ns q1, .slice M1 np r1] 85 (0, 0)) := ⟨_, rfl⟩
                      have HY := Lib.hid (fun (W : World) (q : W.heap[X0]? = some ob0) => show W.cell? ⟨X0, 0, none⟩ = some (.string i) from (cell_of_row _ _ _ _ _ _ (show W.heap[X0]? = some (.cells #[.string i, .string f, .string g, .slice L1 ns q1, .slice M1 np r1] 85 (0, 0)) by rw [← hob]; exact q)).trans rfl)
                      have HOT := Lib.hid (show ∃ cs fr, ob0 = .cells cs 85 fr from ⟨_, _, hob⟩)
                      have HXs : Hid ((wr.alloc (.cells #[.string i, .string f, .string g, .slice L1 ns q1, .slice M1 np r1] 85 (0, 0))).heap[X0]? = some ob0) := Lib.hid (by rw [hob]; exact HX.out)
                      clear hob HX
                      go_loopw [3, 121] (fun s i2 wz => ∃ (q : Nat) (v : Value), s = v ∧ i2 = .int .i64 (q : Int) ∧ q ≤ ns ∧ OwX fcC 4 178 wz w.heap.size v (Lk ++ (ss.take q).map (lF 5 i)) ∧ wz.heap[w.heap.size]? = some go0 ∧ wz.heap[X0]? = some ob0 ∧ Below w.heap.size w wz) (fun _ i2 _ => ns - (intOf i2).toNat)
                      case atStart => exact ⟨0, _, rfl, rfl, Nat.zero_le _, HO1.out.le (by rw [List.take_zero]; simp), HG1.out, HXs.out, HB1.out⟩
                      case round =>
                        clear HG HB HO HG1 HB1 HO1 HXs HBn hX0
                        skip
                        obtain ⟨q, v, rfl, rfl, hq, ho, hg, hx, hb⟩ := hrel
                        obtain ⟨av, nv, cv, rfl⟩ := ho.sl3
                        have HO := Lib.hid ho
                        have HG := Lib.hid hg
                        have HX := Lib.hid hx
                        have HB := Lib.hid hb
                        clear ho hg hx hb
                        by_cases hlq : q < ns
                        · obtain ⟨Lq, hLq⟩ : ∃ Lq, Lq = Lk ++ (ss.take q).map (lF 5 i) := ⟨_, rfl⟩
                          have HLQ := Lib.hid hLq
                          have HLF := Lib.hid (show Lq.length ≤ Lk.length + 8 by rw [hLq, List.length_append, List.length_map, List.length_take]; have := HN1.out; omega)
                          rw [← hLq] at HO
                          clear hLq
                          have hd2 : decide ((q : Int) < (ns : Int)) = true := decide_eq_true (by omega)
                          have hi2 : (0 : Int) ≤ (q : Int) := by omega
                          have hql : q < ss.length := by have := HN1.out; omega
                          obtain ⟨b2, o2, rfl, hc⟩ := (HP1.out.l.later HB.out).2 (by omega)
                          have hc1 := hc q hql
                          obtain ⟨s, hs⟩ : ∃ s, s = ss[q] := ⟨_, rfl⟩
                          have HTQ := Lib.hid (map_take1 (lF 5 i) ss q (show ss[q]? = some s by rw [List.getElem?_eq_getElem hql, hs]))
                          rw [← hs] at hc1
                          clear hs hc
                          have y0 : wr.cell? ⟨X0, 0, none⟩ = some (.string i) := HY.out _ HX.out
                          have HOF := Lib.hid (HO.out.alloc (.cells #[.int .i64 5, .string i, .string s, .string ⟨#[]⟩] 178 (0, 0)))
                          have HGF := Lib.hid (blk_alloc HG.out (.cells #[.int .i64 5, .string i, .string s, .string ⟨#[]⟩] 178 (0, 0)))
                          have HXF := Lib.hid (blk_alloc HX.out (.cells #[.int .i64 5, .string i, .string s, .string ⟨#[]⟩] 178 (0, 0)))
                          have HBF := Lib.hid (HB.out.alloc HB.out.size (.cells #[.int .i64 5, .string i, .string s, .string ⟨#[]⟩] 178 (0, 0)))
                          go_wp2_with (at_builtin; refine wpList_appX rfl (.tmp 125) (.tmp 130) 71 178 _ 56 rfl Try.underlying71 info_fcB rfl (by omega) (by omega) fcC_len fcC_one w.heap.size w HBF.out (by have := HB.out.size; simp at this ⊢ <;> omega) (.slice av nv cv) _ rfl HOF.out (wr.heap.size) 1 (5, i, s, ⟨#[]⟩) #[.int .i64 5, .string i, .string s, .string ⟨#[]⟩] 178 (0, 0) rfl (blk_new wr _) rfl (by have := HLE.out; have := HLF.out; omega) ?_)
                          intro v2 w12 HO2 HB2 HZ2 HG2
                          have hv2 := HO2.out.one
                          have HGN := Lib.hid (boxO (T := 65) (by rw [HGO.out]; exact ⟨_, _, rfl⟩) HOF.out HG2.out HGF.out (by decide))
                          have HXN := Lib.hid (boxO HOT.out HOF.out HG2.out HXF.out (by decide))
                          go_wp2_with fail
                          go_roundw
                          case rel => exact ⟨q + 1, v2, rfl, by go_num, by omega, HO2.out.le (by rw [HLQ.out, HTQ.out, List.append_assoc]; rfl), HGN.out, HXN.out, HB2.out⟩
                          case measure => simp [intOf] <;> omega
                        · have hd2 : decide ((q : Int) < (ns : Int)) = false := decide_eq_false (by omega)
                          have HTQ := Lib.hid (show ss.take q = ss from List.take_of_length_le (by have := HN1.out; omega))
                          rw [HTQ.out] at HO
                          go_wp2_with fail
                          go_roundw
                          case rel => exact ⟨k + 1, .slice av nv cv, rfl, by go_num, by omega, HO.out.le (by rw [HTA.out, HLK.out, List.append_assoc]; rfl), HG.out, HB.out⟩
                          case measure => simp [intOf] <;> omega
                    · have hd1 : decide ((k : Int) < (n2 : Int)) = false := decide_eq_false (by omega)
                      have HT4 := Lib.hid (show Y.take k = Y from List.take_of_length_le (by have := HL.out.2; omega))
                      rw [HT4.out] at HO
                      obtain ⟨P5, hP5⟩ : ∃ P5, P5 = P4 ++ Y.flatMap labsE := ⟨_, rfl⟩
                      have HP5 := Lib.hid (show P5.length ≤ 2600 by
                        have q := fmap_len labsE Y (fun y hy => by have q := (HSM.out.ed y hy).2.2.2.l; unfold labsE; rw [List.length_map]; exact q)
                        have q2 := HP4.out
                        have q3 := HL.out.2
                        rw [hP5, List.length_append]
                        omega)
                      have HPE5 := Lib.hid hP5
                      rw [← hP5] at HO
                      clear hP5 HT4
                      have c0 : wr.cell? ⟨w.heap.size, 0, none⟩ = some (.slice A n c) := by rw [cell_of_row _ _ _ _ _ _ (show wr.heap[w.heap.size]? = some (.cells #[.slice A n c, .slice A2 n2 c2] 65 (0, 0)) by rw [← HGO.out]; exact HG.out)]; rfl
                      have c1 : wr.cell? ⟨w.heap.size, 1, none⟩ = some (.slice A2 n2 c2) := by rw [cell_of_row _ _ _ _ _ _ (show wr.heap[w.heap.size]? = some (.cells #[.slice A n c, .slice A2 n2 c2] 65 (0, 0)) by rw [← HGO.out]; exact HG.out)]; rfl
                      go_wp2_with fail
                      clear c0 c1 hd1
                      go_loopw [3, 137] (fun s i wr => ∃ (k : Nat) (v : Value), s = v ∧ i = .int .i64 (k : Int) ∧ k ≤ n2 ∧ OwX fcC 4 178 wr w.heap.size v (P5 ++ (Y.take k).flatMap prosE) ∧ wr.heap[w.heap.size]? = some go0 ∧ Below w.heap.size w wr) (fun _ i _ => n2 - (intOf i).toNat)
                      case atStart => exact ⟨0, _, rfl, rfl, Nat.zero_le _, HO.out.le (by rw [List.take_zero]; simp), HG.out, HB.out⟩
                      case round =>
                        clear HG HB HO hlt hk
                        obtain ⟨k, v, rfl, rfl, hk, ho, hg, hb⟩ := hrel
                        obtain ⟨av, nv, cv, rfl⟩ := ho.sl3
                        have HO := Lib.hid ho
                        have HG := Lib.hid hg
                        have HB := Lib.hid hb
                        clear ho hg hb
                        by_cases hlt : k < n2
                        · have hd1 : decide ((k : Int) < (n2 : Int)) = true := decide_eq_true (by omega)
                          have hi0 : (0 : Int) ≤ (k : Int) := by omega
                          have hkl : k < Y.length := by have := HL.out.2; omega
                          obtain ⟨x, hxx⟩ : ∃ x, x = Y[k] := ⟨_, rfl⟩
                          have HK := Lib.hid (show Y[k]? = some x by rw [List.getElem?_eq_getElem hkl, hxx])
                          have HTA := Lib.hid (fmap_take prosE Y k HK.out)
                          have hsm := HSM.out.ed x (by rw [hxx]; exact List.getElem_mem hkl)
                          have HLE := Lib.hid (show (P5 ++ (Y.take k).flatMap prosE).length ≤ 3400 by
                            have q := fmap_len prosE (Y.take k) (fun y hy => by have q := (HSM.out.ed y (List.mem_of_mem_take hy)).2.2.2.pl; unfold prosE; rw [List.length_map]; exact q)
                            have q2 := HP5.out
                            rw [List.length_take] at q
                            rw [List.length_append]
                            omega)
                          clear hxx
                          obtain ⟨b1, o1, L1, q1, r1, M1, rfl, x0, x1, x2, x3, x4, hp1⟩ := H.out.edge hlt HK.out
                          obtain ⟨i, f, g, ss, ps⟩ := x
                          dsimp only at x0 x1 x2 x3 x4 hp1 hsm
                          have x0 : wr.cell? ⟨b1, o1 + k * 5, none⟩ = some (.string i) := (HB.out.cell (p := ⟨b1, o1 + k * 5, none⟩) (World.block_lt_of_cell? w _ x0)).trans x0
                          have x1 : wr.cell? ⟨b1, o1 + k * 5 + 1, none⟩ = some (.string f) := (HB.out.cell (p := ⟨b1, o1 + k * 5 + 1, none⟩) (World.block_lt_of_cell? w _ x1)).trans x1
                          have x2 : wr.cell? ⟨b1, o1 + k * 5 + 2, none⟩ = some (.string g) := (HB.out.cell (p := ⟨b1, o1 + k * 5 + 2, none⟩) (World.block_lt_of_cell? w _ x2)).trans x2
                          have x3 : wr.cell? ⟨b1, o1 + k * 5 + 3, none⟩ = some (.slice L1 ss.length q1) := (HB.out.cell (p := ⟨b1, o1 + k * 5 + 3, none⟩) (World.block_lt_of_cell? w _ x3)).trans x3
                          have x4 : wr.cell? ⟨b1, o1 + k * 5 + 4, none⟩ = some (.slice M1 ps.length r1) := (HB.out.cell (p := ⟨b1, o1 + k * 5 + 4, none⟩) (World.block_lt_of_cell? w _ x4)).trans x4
                          have HP1 := Lib.hid hp1
                          have HS1 := Lib.hid hsm.2.2.2
                          have hf12 := hsm.2.1
                          have hg12 := hsm.2.2.1
                          have hh1 : ¬ 9223372036854775807 < f.size + 1 := by omega
                          have hh2 : ¬ 9223372036854775807 < f.size + 1 + g.size := by omega
                          have hs8 : ss.length ≤ 8 := HS1.out.l
                          have hp8 : ps.length ≤ 8 := HS1.out.pl
                          clear hp1 hsm
                          generalize hns : ss.length = ns at *
                          generalize hnp : ps.length = np at *
                          have HN1 := Lib.hid hns
                          have HN2 := Lib.hid hnp
                          clear hns hnp
                          obtain ⟨Lk, hLk⟩ : ∃ Lk, Lk = P5 ++ (Y.take k).flatMap prosE := ⟨_, rfl⟩
                          have HLK := Lib.hid hLk
                          rw [← hLk] at HO HLE
                          clear hLk
                          have HX := Lib.hid (blk_new wr (.cells #[.string i, .string f, .string g, .slice L1 ns q1, .slice M1 np r1] 85 (0, 0)))
                          have HBn := Lib.hid ((Below.refl wr.heap.size wr).alloc (Nat.le_refl _) (.cells #[.string i, .string f, .string g, .slice L1 ns q1, .slice M1 np r1] 85 (0, 0)))
                          have HO1 := Lib.hid (HO.out.kept HBn.out)
                          have HG1 := Lib.hid (blk_below HG.out HBn.out)
                          have HB1 := Lib.hid (HB.out.trans (HBn.out.mono HB.out.size))
                          have y4 : (wr.alloc (.cells #[.string i, .string f, .string g, .slice L1 ns q1, .slice M1 np r1] 85 (0, 0))).cell? ⟨wr.heap.size, 4, none⟩ = some (.slice M1 np r1) := by rw [cell_of_row _ _ _ _ _ _ HX.out]; rfl
                          go_wp2_with fail
                          clear x0 x1 x2 x3 x4 y4
                          obtain ⟨X0, hX0⟩ : ∃ X0, X0 = wr.heap.size := ⟨_, rfl⟩
                          rw [← hX0] at HX
                          try rw [← hX0]
                          obtain ⟨ob0, hob⟩ : ∃ o : Obj, o = (.cells #[.string i, .string f, .string g, .slice L1 ns q1, .slice M1 np r1] 85 (0, 0)) := ⟨_, rfl⟩
                          have HY := Lib.hid (fun (W : World) (q : W.heap[X0]? = some ob0) => show W.cell? ⟨X0, 0, none⟩ = some (.string i) from (cell_of_row _ _ _ _ _ _ (show W.heap[X0]? = some (.cells #[.string i, .string f, .string g, .slice L1 ns q1, .slice M1 np r1] 85 (0, 0)) by rw [← hob]; exact q)).trans rfl)
                          have HOT := Lib.hid (show ∃ cs fr, ob0 = .cells cs 85 fr from ⟨_, _, hob⟩)
                          have HXs : Hid ((wr.alloc (.cells #[.string i, .string f, .string g, .slice L1 ns q1, .slice M1 np r1] 85 (0, 0))).heap[X0]? = some ob0) := Lib.hid (by rw [hob]; exact HX.out)
                          clear hob HX
                          go_loopw [3, 144] (fun s i2 wz => ∃ (q : Nat) (v : Value), s = v ∧ i2 = .int .i64 (q : Int) ∧ q ≤ np ∧ OwX fcC 4 178 wz w.heap.size v (Lk ++ (ps.take q).map (pF 6 i)) ∧ wz.heap[w.heap.size]? = some go0 ∧ wz.heap[X0]? = some ob0 ∧ Below w.heap.size w wz) (fun _ i2 _ => np - (intOf i2).toNat)
                          case atStart => exact ⟨0, _, rfl, rfl, Nat.zero_le _, HO1.out.le (by rw [List.take_zero]; simp), HG1.out, HXs.out, HB1.out⟩
                          case round =>
                            clear HG HB HO HG1 HB1 HO1 HXs HBn hX0
                            skip
                            obtain ⟨q, v, rfl, rfl, hq, ho, hg, hx, hb⟩ := hrel
                            obtain ⟨av, nv, cv, rfl⟩ := ho.sl3
                            have HO := Lib.hid ho
                            have HG := Lib.hid hg
                            have HX := Lib.hid hx
                            have HB := Lib.hid hb
                            clear ho hg hx hb
                            by_cases hlq : q < np
                            · obtain ⟨Lq, hLq⟩ : ∃ Lq, Lq = Lk ++ (ps.take q).map (pF 6 i) := ⟨_, rfl⟩
                              have HLQ := Lib.hid hLq
                              have HLF := Lib.hid (show Lq.length ≤ Lk.length + 8 by rw [hLq, List.length_append, List.length_map, List.length_take]; have := HN2.out; omega)
                              rw [← hLq] at HO
                              clear hLq
                              have hd2 : decide ((q : Int) < (np : Int)) = true := decide_eq_true (by omega)
                              have hi2 : (0 : Int) ≤ (q : Int) := by omega
                              obtain ⟨b2, o2, hql, rfl, hbb, _⟩ := (HP1.out.p.below HB.out).at hlq
                              obtain ⟨x, hx⟩ : ∃ x, x = ps[q] := ⟨_, rfl⟩
                              have HXP := Lib.hid (show ps[q]? = some x by rw [List.getElem?_eq_getElem hql, hx])
                              have HTQ := Lib.hid (map_take1 (pF 6 i) ps q HXP.out)
                              obtain ⟨_, z2, z3, z4⟩ := HS1.out.p x (by rw [hx]; exact List.getElem_mem hql)
                              obtain ⟨s, a, d, t⟩ := x
                              have HVP := Lib.hid (fun W : World => rputV_any a d t W z3 z4 (by have : t.size ≤ 64 := z2; omega))
                              obtain ⟨u, hu⟩ : ∃ u, u = vput a d t := ⟨_, rfl⟩
                              have HU := Lib.hid hu
                              rw [← hu] at HVP
                              clear hx z2 z3 z4 hu hbb
                              have hc0 : wr.cell? ⟨b2, o2 + q * 4, none⟩ = some (.string s) := (HP1.out.p.below HB.out).cellAt HXP.out hlq 0 _ rfl
                              have hc1 : wr.cell? ⟨b2, o2 + q * 4 + 1, none⟩ = some (.int .i64 a) := (HP1.out.p.below HB.out).cellAt HXP.out hlq 1 _ rfl
                              have hc2 : wr.cell? ⟨b2, o2 + q * 4 + 2, none⟩ = some (.int .i64 d) := (HP1.out.p.below HB.out).cellAt HXP.out hlq 2 _ rfl
                              have hc3 : wr.cell? ⟨b2, o2 + q * 4 + 3, none⟩ = some (.string t) := (HP1.out.p.below HB.out).cellAt HXP.out hlq 3 _ rfl
                              have HR := Lib.hid (blk_new wr (.cells #[.string s, .int .i64 a, .int .i64 d, .string t] 187 (0, 0)))
                              have HBp := Lib.hid ((Below.refl wr.heap.size wr).alloc (Nat.le_refl _) (.cells #[.string s, .int .i64 a, .int .i64 d, .string t] 187 (0, 0)))
                              have HO1 := Lib.hid (HO.out.kept HBp.out)
                              have HG1 := Lib.hid (blk_below HG.out HBp.out)
                              have HX1 := Lib.hid (blk_below HX.out HBp.out)
                              have HB1 := Lib.hid (HB.out.trans (HBp.out.mono HB.out.size))
                              go_upto_region 47 with (fail)
                              obtain ⟨v, hv⟩ : ∃ v, v = wr.alloc (.cells #[.string s, .int .i64 a, .int .i64 d, .string t] 187 (0, 0)) := ⟨_, rfl⟩
                              obtain ⟨R0, hR0⟩ : ∃ R0, R0 = wr.heap.size := ⟨_, rfl⟩
                              rw [← hv, ← hR0] at HR
                              rw [← hv] at HO1 HG1 HX1 HB1
                              try rw [← hv]
                              try rw [← hR0]
                              clear hv hR0 HBp hc0 hc1 hc2 hc3
                              have HXd : Hid (v.drew.heap[X0]? = some ob0) := Lib.hid HX1.out
                              have HRd : Hid (v.drew.heap[R0]? = some (.cells #[.string s, .int .i64 a, .int .i64 d, .string t] 187 (0, 0))) := Lib.hid HR.out
                              have y0 : v.drew.cell? ⟨X0, 0, none⟩ = some (.string i) := HY.out _ HXd.out
                              have y1 : v.drew.cell? ⟨R0, 0, none⟩ = some (.string s) := (cell_of_row _ _ _ _ _ _ HRd.out).trans rfl
                              have y2 : v.drew.cell? ⟨R0, 1, none⟩ = some (.int .i64 a) := (cell_of_row _ _ _ _ _ _ HRd.out).trans rfl
                              have y3 : v.drew.cell? ⟨R0, 2, none⟩ = some (.int .i64 d) := (cell_of_row _ _ _ _ _ _ HRd.out).trans rfl
                              have y4 : v.drew.cell? ⟨R0, 3, none⟩ = some (.string t) := (cell_of_row _ _ _ _ _ _ HRd.out).trans rfl
                              go_region_held3 (fun w9 => w9.cell? ⟨X0, 0, none⟩ = some (.string i) ∧ w9.cell? ⟨R0, 0, none⟩ = some (.string s) ∧ w9.cell? ⟨R0, 1, none⟩ = some (.int .i64 a) ∧ w9.cell? ⟨R0, 2, none⟩ = some (.int .i64 d) ∧ w9.cell? ⟨R0, 3, none⟩ = some (.string t))
                                (first | exact ⟨y0, y1, y2, y3, y4⟩ | exact ⟨u0, u1, u2, u3, u4⟩ | exact ⟨m0, m1, m2, m3, m4⟩ | go_keep)
                                (first
                                | (go_at_call 132; refine (HVP.out _).mono ?_; rintro e w5 ⟨rfl, hb5⟩; have HO5 := Lib.hid (HO1.out.drew.kept hb5); have HG5 := Lib.hid (blk_below (show v.drew.heap[w.heap.size]? = _ from HG1.out) hb5); have HX5 := Lib.hid (blk_below HXd.out hb5); have HR5 := Lib.hid (blk_below HRd.out hb5); have HB5 := Lib.hid (HB1.out.drew.trans (hb5.mono HB1.out.size)); have u0 : w5.cell? ⟨X0, 0, none⟩ = some (.string i) := HY.out _ HX5.out; have u1 : w5.cell? ⟨R0, 0, none⟩ = some (.string s) := (cell_of_row _ _ _ _ _ _ HR5.out).trans rfl; have u2 : w5.cell? ⟨R0, 1, none⟩ = some (.int .i64 a) := (cell_of_row _ _ _ _ _ _ HR5.out).trans rfl; have u3 : w5.cell? ⟨R0, 2, none⟩ = some (.int .i64 d) := (cell_of_row _ _ _ _ _ _ HR5.out).trans rfl; have u4 : w5.cell? ⟨R0, 3, none⟩ = some (.string t) := (cell_of_row _ _ _ _ _ _ HR5.out).trans rfl; clear hb5)
                                | (refine step_appX rfl (.tmp 148) (.tmp 157) 71 178 _ 56 rfl Try.underlying71 info_fcB rfl (by omega) (by omega) fcC_len fcC_one w.heap.size w (HB5.out.alloc HB5.out.size (.cells #[.int .i64 6, .string i, .string s, .string u] 178 (0, 0))) (by have := HB5.out.size; simp at this ⊢ <;> omega) (.slice av nv cv) _ rfl (HO5.out.alloc (.cells #[.int .i64 6, .string i, .string s, .string u] 178 (0, 0))) w5.heap.size 1 (6, i, s, u) #[.int .i64 6, .string i, .string s, .string u] 178 (0, 0) rfl (blk_new w5 _) rfl (by have := HLE.out; have := HLF.out; omega) ?_; intro v2 w6 HO6 HB6 HZ6 HG6; have HGN := Lib.hid (boxO (T := 65) (by rw [HGO.out]; exact ⟨_, _, rfl⟩) (HO5.out.alloc (.cells #[.int .i64 6, .string i, .string s, .string u] 178 (0, 0))) HG6.out (blk_alloc HG5.out (.cells #[.int .i64 6, .string i, .string s, .string u] 178 (0, 0))) (by decide)); have HXN := Lib.hid (boxO HOT.out (HO5.out.alloc (.cells #[.int .i64 6, .string i, .string s, .string u] 178 (0, 0))) HG6.out (blk_alloc HX5.out (.cells #[.int .i64 6, .string i, .string s, .string u] 178 (0, 0))) (by decide)); have HRN := Lib.hid ((HO5.out.alloc (.cells #[.int .i64 6, .string i, .string s, .string u] 178 (0, 0))).box HG6.out (blk_alloc HR5.out (.cells #[.int .i64 6, .string i, .string s, .string u] 178 (0, 0))) (Or.inl (by decide))); obtain ⟨a6, n6, c6, rfl⟩ := HO6.out.sl3; have m0 : w6.cell? ⟨X0, 0, none⟩ = some (.string i) := HY.out _ HXN.out; have m1 : w6.cell? ⟨R0, 0, none⟩ = some (.string s) := (cell_of_row _ _ _ _ _ _ HRN.out).trans rfl; have m2 : w6.cell? ⟨R0, 1, none⟩ = some (.int .i64 a) := (cell_of_row _ _ _ _ _ _ HRN.out).trans rfl; have m3 : w6.cell? ⟨R0, 2, none⟩ = some (.int .i64 d) := (cell_of_row _ _ _ _ _ _ HRN.out).trans rfl; have m4 : w6.cell? ⟨R0, 3, none⟩ = some (.string t) := (cell_of_row _ _ _ _ _ _ HRN.out).trans rfl))
                              all_goals
                                go_wp2_with fail
                                go_roundw
                                case rel => exact ⟨q + 1, .slice a6 n6 c6, rfl, by go_num, by omega, HO6.out.le (by rw [HLQ.out, HTQ.out, List.append_assoc, HU.out]; rfl), HGN.out, HXN.out, HB6.out⟩
                                case measure => simp [intOf] <;> omega
                            · have hd2 : decide ((q : Int) < (np : Int)) = false := decide_eq_false (by omega)
                              have HTQ := Lib.hid (show ps.take q = ps from List.take_of_length_le (by have := HN2.out; omega))
                              rw [HTQ.out] at HO
                              go_wp2_with fail
                              go_roundw
                              case rel => exact ⟨k + 1, .slice av nv cv, rfl, by go_num, by omega, HO.out.le (by rw [HTA.out, HLK.out, List.append_assoc]; rfl), HG.out, HB.out⟩
                              case measure => simp [intOf] <;> omega
                        · have hd1 : decide ((k : Int) < (n2 : Int)) = false := decide_eq_false (by omega)
                          have HT5 := Lib.hid (show Y.take k = Y from List.take_of_length_le (by have := HL.out.2; omega))
                          rw [HT5.out] at HO
                          obtain ⟨P6, hP6⟩ : ∃ P6, P6 = P5 ++ Y.flatMap prosE := ⟨_, rfl⟩
                          have HP6 := Lib.hid (show P6.length ≤ 3400 by
                            have q := fmap_len prosE Y (fun y hy => by have q := (HSM.out.ed y hy).2.2.2.pl; unfold prosE; rw [List.length_map]; exact q)
                            have q2 := HP5.out
                            have q3 := HL.out.2
                            rw [hP6, List.length_append]
                            omega)
                          have HPE6 := Lib.hid hP6
                          rw [← hP6] at HO
                          clear hP6 HT5
                          have HF := Lib.hid (show P6 = docF X Y by rw [HPE6.out, HPE5.out, HPE4.out, HPE3.out, HPE2.out, HPE1.out, HPE0.out, List.nil_append]; rfl)
                          go_wp2_with fail
                          go_ret
                          exact ⟨_, rfl, HO.out.le (by rw [HF.out, HE.out]), HB.out⟩
end Go.Proofs.Ytbjngbacnkmjhaa
namespace Go.Proofs.Ytbjngbacnkmjhaa
open Go.RowKit Vi

theorem foldN_at : ∀ (X : List Nd) (Ls : Nat → List Fc), X.foldl stepN Ls 1 = Ls 1 ++ X.map nF ∧ X.foldl stepN Ls 2 = Ls 2 ++ X.flatMap labsN ∧ X.foldl stepN Ls 3 = Ls 3 ++ X.flatMap prosN ∧ ∀ i, i ≠ 1 → i ≠ 2 → i ≠ 3 → X.foldl stepN Ls i = Ls i
  | [], Ls => by simp
  | x :: r, Ls => by
    obtain ⟨h1, h2, h3, h4⟩ := foldN_at r (stepN Ls x)
    have e1 : stepN Ls x 1 = Ls 1 ++ [nF x] := by simp [stepN, addL]
    have e2 : stepN Ls x 2 = Ls 2 ++ labsN x := by simp [stepN, addL, labsN]
    have e3 : stepN Ls x 3 = Ls 3 ++ prosN x := by simp [stepN, addL, prosN]
    rw [List.foldl_cons]
    refine ⟨by rw [h1, e1]; simp, by rw [h2, e2]; simp, by rw [h3, e3]; simp, fun i q1 q2 q3 => ?_⟩
    rw [h4 i q1 q2 q3]
    simp [stepN, addL, q1, q2, q3]
theorem foldE_at : ∀ (X : List Ed) (Ls : Nat → List Fc), X.foldl stepE Ls 4 = Ls 4 ++ X.map eF ∧ X.foldl stepE Ls 5 = Ls 5 ++ X.flatMap labsE ∧ X.foldl stepE Ls 6 = Ls 6 ++ X.flatMap prosE ∧ ∀ i, i ≠ 4 → i ≠ 5 → i ≠ 6 → X.foldl stepE Ls i = Ls i
  | [], Ls => by simp
  | x :: r, Ls => by
    obtain ⟨h1, h2, h3, h4⟩ := foldE_at r (stepE Ls x)
    have e1 : stepE Ls x 4 = Ls 4 ++ [eF x] := by simp [stepE, addL]
    have e2 : stepE Ls x 5 = Ls 5 ++ labsE x := by simp [stepE, addL, labsE]
    have e3 : stepE Ls x 6 = Ls 6 ++ prosE x := by simp [stepE, addL, prosE]
    rw [List.foldl_cons]
    refine ⟨by rw [h1, e1]; simp, by rw [h2, e2]; simp, by rw [h3, e3]; simp, fun i q1 q2 q3 => ?_⟩
    rw [h4 i q1 q2 q3]
    simp [stepE, addL, q1, q2, q3]
theorem fcts_doc (X : List Nd) (Y : List Ed) : fcts X Y = rfcts X Y := by
  unfold fcts rfcts
  have h : fctL (gLs X Y) = docF X Y := by
    obtain ⟨n1, n2, n3, n4⟩ := foldN_at X (fun _ => [])
    obtain ⟨e1, e2, e3, e4⟩ := foldE_at Y (X.foldl stepN (fun _ => []))
    unfold fctL gLs docF
    rw [e1, e2, e3, e4 0 (by decide) (by decide) (by decide), e4 1 (by decide) (by decide) (by decide), e4 2 (by decide) (by decide) (by decide), e4 3 (by decide) (by decide) (by decide), n1, n2, n3, n4 0 (by decide) (by decide) (by decide), n4 4 (by decide) (by decide) (by decide), n4 5 (by decide) (by decide) (by decide), n4 6 (by decide) (by decide) (by decide)]
    simp only [List.nil_append, List.append_assoc]
  rw [h]
theorem rises_pw : ∀ l : List Fc, l.Pairwise (fun a b => lessF a b = true) → risesF l = true
  | [], _ => rfl
  | [_], _ => rfl
  | a :: b :: r, h => by
    have p := List.pairwise_cons.1 h
    unfold risesF
    rw [p.1 b (by simp), rises_pw (b :: r) p.2]
    rfl
theorem lt_ne {s t : ByteArray} (h : Op.bytesLess s.toList t.toList = true) : (s.toList == t.toList) = false := by
  cases q : (s.toList == t.toList) with
  | false => rfl
  | true =>
    have e := cmpS_self s t q
    have l := (cmpS_lt s t).2 h
    omega
theorem less_kind {a b : Fc} (h : a.1 < b.1) : lessF a b = true := by
  unfold lessF
  rw [if_pos (by omega)]
  exact decide_eq_true h
theorem less_id {a b : Fc} (h : a.1 = b.1) (k : Op.bytesLess a.2.1.toList b.2.1.toList = true) : lessF a b = true := by
  unfold lessF
  rw [if_neg (by omega), if_neg (by rw [lt_ne k]; simp)]
  exact k
theorem less_key {a b : Fc} (h : a.1 = b.1) (e : a.2.1 = b.2.1) (k : Op.bytesLess a.2.2.1.toList b.2.2.1.toList = true) : lessF a b = true := by
  unfold lessF
  rw [if_neg (by omega), if_pos (by rw [e]; simp)]
  exact k
theorem wrN_row : ∀ (p : ByteArray) (X : List Nd), wrN p X = 0 → rowE p (X.map (·.1)) = 0
  | _, [], _ => rfl
  | p, x :: r, h => by
    unfold wrN at h
    split at h
    · next h1 => exact absurd h h1
    · next h1 =>
      split at h
      · cases h
      · next h2 =>
        show rowE p (x.1 :: r.map (·.1)) = 0
        rw [rowE_go p x.1 _ (ndE_nm (by simpa using h1)) (by simpa using h2)]
        exact wrN_row _ r h
theorem wrE_row (X : List Nd) : ∀ (p : ByteArray) (Y : List Ed), wrE X p Y = 0 → rowE p (Y.map (·.1)) = 0
  | _, [], _ => rfl
  | p, x :: r, h => by
    unfold wrE at h
    split at h
    · next h1 => exact absurd h h1
    · next h1 =>
      split at h
      · cases h
      · next h2 =>
        split at h
        · cases h
        · show rowE p (x.1 :: r.map (·.1)) = 0
          rw [rowE_go p x.1 _ (edE_nm (by simpa using h1)) (by simpa using h2)]
          exact wrE_row X _ r h
theorem okP_nmX {p : Pr} (h : okP p = true) : nm p.1 = true := by
  unfold okP at h
  rw [Bool.and_eq_true] at h
  exact h.1
theorem prE_rowX : ∀ (p : ByteArray) (ps : List Pr), prE p ps = 0 → rowE p (ps.map (·.1)) = 0
  | _, [], _ => rfl
  | p, x :: r, h => by
    unfold prE at h
    split at h
    · cases h
    · next h1 =>
      split at h
      · cases h
      · next h2 =>
        have hn : nm x.1 = true := okP_nmX (by simpa using h1)
        show rowE p (x.1 :: r.map (·.1)) = 0
        rw [rowE_go p x.1 _ hn (by simpa using h2)]
        exact prE_rowX _ r h
/-- what is said of one: labels, properties rise by their keys -/
theorem parts_rise {ss : List ByteArray} {ps : List Pr} (h : rsW ss ps = 0) : Rise ss ∧ Rise (ps.map (·.1)) := by
  obtain ⟨_, h2, _, h4⟩ := rs_zero h
  exact ⟨(row0_ok ss h2).2, (row0_ok _ (prE_rowX _ ps h4)).2⟩
theorem lab_pw (k : Nat) (id : ByteArray) {ss : List ByteArray} (h : Rise ss) : (ss.map (lF k id)).Pairwise (fun a b => lessF a b = true) :=
  List.pairwise_map.2 (List.Pairwise.imp (fun {a b} q => less_key (a := lF k id a) (b := lF k id b) rfl rfl q) h)
theorem pro_pw (k : Nat) (id : ByteArray) {ps : List Pr} (h : Rise (ps.map (·.1))) : (ps.map (pF k id)).Pairwise (fun a b => lessF a b = true) :=
  List.pairwise_map.2 (List.Pairwise.imp (fun {a b} q => less_key (a := pF k id a) (b := pF k id b) rfl rfl q) (List.pairwise_map.1 h))
theorem flat_pw {α : Type} {f : α → List Fc} {g : α → ByteArray} {k : Int} {l : List α} (hk : ∀ x ∈ l, ∀ a ∈ f x, a.1 = k ∧ a.2.1 = g x) (h1 : ∀ x ∈ l, (f x).Pairwise (fun a b => lessF a b = true)) (h2 : Rise (l.map g)) : (l.flatMap f).Pairwise (fun a b => lessF a b = true) := by
  refine List.pairwise_flatMap.2 ⟨h1, ?_⟩
  have h3 := List.pairwise_map.1 h2
  refine List.Pairwise.imp_of_mem (fun {x y} hx hy q a ha b hb => ?_) h3
  obtain ⟨a1, a2⟩ := hk x hx a ha
  obtain ⟨b1, b2⟩ := hk y hy b hb
  exact less_id (by rw [a1, b1]) (by rw [a2, b2]; exact q)
theorem one_pw {α : Type} {f : α → Fc} {g : α → ByteArray} {k : Int} {l : List α} (hk : ∀ x, (f x).1 = k ∧ (f x).2.1 = g x) (h2 : Rise (l.map g)) : (l.map f).Pairwise (fun a b => lessF a b = true) :=
  List.pairwise_map.2 ((List.pairwise_map.1 h2).imp fun {x y} q => less_id (by rw [(hk x).1, (hk y).1]) (by rw [(hk x).2, (hk y).2]; exact q))
theorem app_pw {l m : List Fc} {j k : Int} (h1 : l.Pairwise (fun a b => lessF a b = true)) (h2 : m.Pairwise (fun a b => lessF a b = true)) (hl : ∀ a ∈ l, a.1 ≤ j) (hm : ∀ b ∈ m, b.1 = k) (hjk : j < k) : (l ++ m).Pairwise (fun a b => lessF a b = true) ∧ ∀ a ∈ l ++ m, a.1 ≤ k :=
  ⟨List.pairwise_append.2 ⟨h1, h2, fun a ha b hb => less_kind (by have := hl a ha; have := hm b hb; omega)⟩, fun a ha => by
    rcases List.mem_append.1 ha with q | q
    · have := hl a q; omega
    · have := hm a q; omega⟩
theorem lab_kind (k : Nat) (id : ByteArray) (ss : List ByteArray) : ∀ a ∈ ss.map (lF k id), a.1 = (k : Int) ∧ a.2.1 = id := fun a ha => by
  obtain ⟨s, _, rfl⟩ := List.mem_map.1 ha
  exact ⟨rfl, rfl⟩
theorem pro_kind (k : Nat) (id : ByteArray) (ps : List Pr) : ∀ a ∈ ps.map (pF k id), a.1 = (k : Int) ∧ a.2.1 = id := fun a ha => by
  obtain ⟨s, _, rfl⟩ := List.mem_map.1 ha
  exact ⟨rfl, rfl⟩
theorem flat_kind {α : Type} {f : α → List Fc} {k : Int} {l : List α} (h : ∀ x ∈ l, ∀ a ∈ f x, a.1 = k) : ∀ a ∈ l.flatMap f, a.1 = k := fun a ha => by
  obtain ⟨x, hx, hax⟩ := List.mem_flatMap.1 ha
  exact h x hx a hax
theorem doc_rises {X : List Nd} {Y : List Ed} (h : gW X Y = 0) : risesF (docF X Y) = true := by
  obtain ⟨h1, h2⟩ := gW_zero h
  have r1 := (row0_ok _ (wrN_row _ X h1)).2
  have r2 := (row0_ok _ (wrE_row X _ Y h2)).2
  have p1 : ∀ x ∈ X, Rise x.2.1 ∧ Rise (x.2.2.map (·.1)) := fun x hx => by
    have q := wrN_zero _ X h1 x hx
    unfold ndE ndW at q
    split at q
    · cases q
    · exact parts_rise q
  have p2 : ∀ y ∈ Y, Rise y.2.2.2.1 ∧ Rise (y.2.2.2.2.map (·.1)) := fun y hy => by
    have q := wrE_zero X _ Y h2 y hy
    exact parts_rise (ed_zero q).2.2.2
  have k1 : ∀ a ∈ X.map nF, a.1 = 1 := fun a ha => by obtain ⟨s, _, rfl⟩ := List.mem_map.1 ha; rfl
  have k4 : ∀ a ∈ Y.map eF, a.1 = 4 := fun a ha => by obtain ⟨s, _, rfl⟩ := List.mem_map.1 ha; rfl
  have s1 : (X.map nF).Pairwise (fun a b => lessF a b = true) := one_pw (f := nF) (k := 1) (g := fun x : Nd => x.1) (fun _ => ⟨rfl, rfl⟩) r1
  have s2 : (X.flatMap labsN).Pairwise (fun a b => lessF a b = true) := flat_pw (f := labsN) (k := ((2 : Nat) : Int)) (g := fun x : Nd => x.1) (fun x _ => lab_kind 2 x.1 x.2.1) (fun x hx => lab_pw 2 x.1 (p1 x hx).1) r1
  have s3 : (X.flatMap prosN).Pairwise (fun a b => lessF a b = true) := flat_pw (f := prosN) (k := ((3 : Nat) : Int)) (g := fun x : Nd => x.1) (fun x _ => pro_kind 3 x.1 x.2.2) (fun x hx => pro_pw 3 x.1 (p1 x hx).2) r1
  have s4 : (Y.map eF).Pairwise (fun a b => lessF a b = true) := one_pw (f := eF) (k := 4) (g := fun x : Ed => x.1) (fun _ => ⟨rfl, rfl⟩) r2
  have s5 : (Y.flatMap labsE).Pairwise (fun a b => lessF a b = true) := flat_pw (f := labsE) (k := ((5 : Nat) : Int)) (g := fun x : Ed => x.1) (fun x _ => lab_kind 5 x.1 x.2.2.2.1) (fun x hx => lab_pw 5 x.1 (p2 x hx).1) r2
  have s6 : (Y.flatMap prosE).Pairwise (fun a b => lessF a b = true) := flat_pw (f := prosE) (k := ((6 : Nat) : Int)) (g := fun x : Ed => x.1) (fun x _ => pro_kind 6 x.1 x.2.2.2.2) (fun x hx => pro_pw 6 x.1 (p2 x hx).2) r2
  obtain ⟨t2, u2⟩ := app_pw (j := 1) (k := 2) s1 s2 (fun a ha => by have := k1 a ha; omega) (flat_kind fun x _ a ha => (lab_kind 2 x.1 x.2.1 a ha).1) (by decide)
  obtain ⟨t3, u3⟩ := app_pw (j := 2) (k := 3) t2 s3 u2 (flat_kind fun x _ a ha => (pro_kind 3 x.1 x.2.2 a ha).1) (by decide)
  obtain ⟨t4, u4⟩ := app_pw (j := 3) (k := 4) t3 s4 u3 k4 (by decide)
  obtain ⟨t5, u5⟩ := app_pw (j := 4) (k := 5) t4 s5 u4 (flat_kind fun x _ a ha => (lab_kind 5 x.1 x.2.2.2.1 a ha).1) (by decide)
  obtain ⟨t6, _⟩ := app_pw (j := 5) (k := 6) t5 s6 u5 (flat_kind fun x _ a ha => (pro_kind 6 x.1 x.2.2.2.2 a ha).1) (by decide)
  exact rises_pw _ t6
theorem fcts_rise (X : List Nd) (Y : List Ed) : riseE (fcts X Y) = 0 := by
  rw [fcts_doc]
  unfold rfcts
  split
  · rfl
  · next h => exact riseE_yes (doc_rises (by simpa using h))
end Go.Proofs.Ytbjngbacnkmjhaa
