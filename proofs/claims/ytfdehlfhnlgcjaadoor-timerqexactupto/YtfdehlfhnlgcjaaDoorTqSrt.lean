/-
  Ours: the library's sort, at keys.
-/
import Derived.Test.YtfdehlfhnlgcjaaDoorTqList
import Derived.Test.YtfdehlfhnlgcjaaDoorTqGr
import Derived.Test.YtfdehlfhnlgcjaaDoorShelf
import Derived.Shelf.SlSortCmp.WholeK
namespace Go.Proofs.YtfdehlfhnlgcjaaDoor
open Go.RowKit TqM Go.Sort

instance : Inhabited Ky := ⟨⟨0, 0, 0⟩⟩
theorem ltOf_cmpK (x y : Ky) : ltOf cmpK x y = decide (TqM.lt x y) := by
  unfold ltOf
  exact decide_eq_decide.2 (cmpK_neg x y)
theorem swoK : SWO (ltOf cmpK) where
  irrefl x := by rw [ltOf_cmpK]; exact decide_eq_false (lt_irrefl x)
  trans x y z h1 h2 := by
    rw [ltOf_cmpK] at *
    exact decide_eq_true (lt_trans (of_decide_eq_true h1) (of_decide_eq_true h2))
  ntrans x y z h1 h2 := by
    rw [ltOf_cmpK] at *
    refine decide_eq_false (fun h => ?_)
    have n1 := of_decide_eq_false h1
    have n2 := of_decide_eq_false h2
    by_cases e : x = y
    · subst e; exact n2 h
    · rcases lt_or x y e with h3 | h3
      · exact n1 h3
      · exact n2 (lt_trans h3 h)
theorem cmpLays (blk off size : Nat) (w : World) : CmpLays Tryd.prog 55 #[] kyL 3 cmpK blk off size w :=
  fun _ _ _ _ x y => compare_gr x y _
theorem getK (ks : List Ky) (i : Nat) : ks.toArray[i]! = kN ks i := by
  simp [kN, List.getD_eq_getElem?_getD]
  rfl
theorem flat_ks (ks : List Ky) : flatK kyL 3 ks.toArray = (ksL ks).toArray := by
  refine ext_get! (by simp [ksL_len]) fun t ht => ?_
  have ht' : t < ks.length * 3 := by simpa using ht
  rw [get_flatK _ _ _ t (by simpa using ht'), getK]
  have h := ksL_at ks (t / 3) (t % 3) (by omega) (by omega)
  rw [show t / 3 * 3 + t % 3 = t from by omega] at h
  have hk : (kyL (kN ks (t / 3)))[t % 3]? = some (kyL (kN ks (t / 3)))[t % 3]! := by
    have : t % 3 < (kyL (kN ks (t / 3))).length := by show t % 3 < 3; omega
    rw [List.getElem?_eq_getElem this]
    exact congrArg some (getElem!_pos (kyL (kN ks (t / 3))) (t % 3) this).symm
  rw [hk] at h
  have hl : t < (ksL ks).length := by rw [ksL_len]; exact ht'
  rw [List.getElem?_eq_getElem hl] at h
  injection h with h
  rw [← h]
  simp [hl]

theorem put_all (F c : Array Value) (h : c.size = F.size) : putCells id 0 F c = F := by
  apply Array.ext (by simp [putCells, h])
  intro i h1 h2
  simp [putCells, h2]
theorem sort_blk {G n : Nat} {w : World} {ks : List Ky} {d' : Array Ky} {os : Array Obj} (hb : Blk G 24 (ksL ks) w) (hd : d'.size = ks.length) :
    Blk G 24 (ksL d'.toList) (sortWorldK kyL 3 w G 0 n d' os) ∧ w.grownBy (sortWorldK kyL 3 w G 0 n d' os) (some G) := by
  have hF : flatK kyL 3 d' = (ksL d'.toList).toArray := flat_ks d'.toList
  have hh : ∀ k, k < w.heap.size → (sortWorldK kyL 3 w G 0 n d' os).heap[k]? = (w.heap.modify G (onCells (putCells id 0 (flatK kyL 3 d'))))[k]? := fun k hk => by
    show ((w.heap.modify G (onCells (putCells id 0 (flatK kyL 3 d')))) ++ os)[k]? = _
    rw [Array.getElem?_append_left (by simpa using hk)]
  refine ⟨?_, rfl, rfl, rfl, ?_, fun k hk hne => ?_⟩
  · unfold Blk
    rw [hh G hb.lt, Array.getElem?_modify, if_pos rfl, show w.heap[G]? = _ from hb]
    simp only [Option.map_some, onCells]
    rw [put_all _ _ (by rw [hF]; simp [ksL_len, hd]), hF]
  · show w.heap.size ≤ ((w.heap.modify G (onCells (putCells id 0 (flatK kyL 3 d')))) ++ os).size
    simp
  · rw [hh k hk, Array.getElem?_modify, if_neg (fun e => hne (by rw [e]))]

theorem sort_ok : SortOk := by
  intro ks G cap w hb hl
  have eg : ∀ args w, (callFunc 55 args).run Tryd.prog w = .ok (.enter 55 args) w := enters_of Tryd.func55 (by kernel_rfl) rfl
  have hH : HoldsK kyL 3 w G 0 ks.toArray := by
    intro j hj
    rw [flat_ks] at hj ⊢
    have hj' : j < (ksL ks).length := by simpa using hj
    refine ⟨?_, by rw [Nat.zero_add]; exact hb.fz j⟩
    rw [Nat.zero_add]
    exact hb.cell j _ (by simp [hj'])
  have hcon := AnyQ.slices_SortFunc Go.Proofs.Tryd.sortTm 3 Tryd.isAgg24 Tryd.sizeOf24 kyL (fun _ => rfl) (fun x v hv => by simp [kyL] at hv; rcases hv with rfl | rfl | rfl <;> rfl) cmpK swoK 55 #[] G 0 cap ks.toArray w eg (cmpLays G 0 ks.toArray.size w) hH hb.lt (by simp; omega)
  change Calls Tryd.prog 54 _ _ _ at hcon
  have es : ks.toArray.size = ks.length := by simp
  rw [es] at hcon
  refine hcon.mono ?_
  rintro e w' ⟨rfl, d', n, os, hp, hs, rfl⟩
  obtain ⟨h1, _, h3⟩ := hp
  have hd : d'.size = ks.length := by rw [h1, es]
  refine ⟨rfl, d'.toList, ?_, ?_, ?_, ?_⟩
  · rw [show d'.extract 0 ks.length = d' from by rw [← hd]; simp, show ks.toArray.extract 0 ks.length = ks.toArray from by rw [← es]; simp] at h3
    simpa using h3
  · rw [List.pairwise_iff_getElem]
    intro i j hi hj hij
    have := hs i j (Nat.zero_le _) hij (by rw [← hd]; simpa using hj)
    rw [ltOf_cmpK] at this
    have h := of_decide_eq_false this
    have hi' : i < d'.size := by simpa using hi
    have hj' : j < d'.size := by simpa using hj
    rw [getElem!_pos d' j hj', getElem!_pos d' i hi'] at h
    simpa using h
  · exact (sort_blk hb hd).1
  · exact (sort_blk hb hd).2
end Go.Proofs.YtfdehlfhnlgcjaaDoor
