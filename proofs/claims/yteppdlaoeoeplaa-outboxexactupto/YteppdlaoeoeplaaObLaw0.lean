/-
  Ours: the statement's first; rows of operations (gen_obh.py: THE SEAT's OWN NUMBERS).
-/
import Derived.Test.YteppdlaoeoeplaaObUp2
import Derived.Deep.AppendLies
namespace Go.Proofs.Yteppdlaoeoeplaa
open Go.RowKit ObM LedM PolM
set_option linter.unusedSimpArgs false

namespace ObM
/-- An operation, and where its bytes lie. -/
abbrev OcX := Oc × Option Addr × Nat
def ocX (x : OcX) : List Value := ocL x.1 x.2.1 x.2.2
def pendX (t : Bool) : OcX := (⟨4, t, 0, 0, []⟩, none, 0)
def addX : OcX := (⟨1, false, 0, 0, []⟩, none, 0)
def first4 (h : Nat) : List OcX := [(⟨1, false, 7, 3, [1, 2]⟩, some ⟨h, 0, none⟩, 2), (⟨3, false, 0, 3, []⟩, none, 0), (⟨4, false, 0, 0, []⟩, none, 0), (⟨2, false, 7, 0, []⟩, none, 0)]
end ObM
theorem ocX_len (x : OcX) : (ocX x).length = 5 := rfl
theorem ocX_one (x : OcX) : ∀ v ∈ ocX x, v.oneCell' = true := ocL_one _ _ _
theorem ocX_all (xs : List OcX) : ∀ v ∈ xs.flatMap ocX, v.oneCell' = true := fun v hv => by
  obtain ⟨x, _, hx⟩ := List.mem_flatMap.1 hv
  exact ocX_one x v hx
theorem fmX_len : ∀ xs : List OcX, (xs.flatMap ocX).length = xs.length * 5
  | [] => rfl
  | e :: r => by
    have := fmX_len r
    rw [List.flatMap_cons, List.length_append, List.length_cons, ocX_len]
    omega
theorem fmX_at : ∀ (xs : List OcX) (i j : Nat) (x : OcX), xs[i]? = some x → j < 5 → (xs.flatMap ocX)[i * 5 + j]? = (ocX x)[j]?
  | e :: r, 0, j, x, h, hj => by
    simp only [List.getElem?_cons_zero, Option.some.injEq] at h
    subst h
    rw [Nat.zero_mul, Nat.zero_add, List.flatMap_cons, List.getElem?_append_left (by rw [ocX_len]; exact hj)]
  | e :: r, i + 1, j, x, h, hj => by
    have ih := fmX_at r i j x (by simpa using h) hj
    rw [List.flatMap_cons, List.getElem?_append_right (by rw [ocX_len]; omega), ocX_len]
    rw [show (i + 1) * 5 + j - 5 = i * 5 + j by omega, ih]
/-- A row of operations reads as a script. -/
theorem rdOc_row {base n c : Nat} {a : Option Addr} {w : World} {xs : List OcX} (h : w.ownsRow base 30 5 (.slice a n c) xs.length (xs.flatMap ocX)) (hb : ∀ x ∈ xs, RdB w (.slice x.2.1 x.1.bs.length x.2.2) x.1.bs) : RdOc w (.slice a n c) (xs.map (·.1)) := by
  obtain rfl := own_len h
  refine ⟨a, c, by rw [List.length_map], fun i o hi => ?_⟩
  rw [List.getElem?_map] at hi
  obtain ⟨x, hx, rfl⟩ := Option.map_eq_some_iff.1 hi
  have hl := (List.getElem?_eq_some_iff.1 hx).1
  rcases h.2 with ⟨h1, h0⟩ | ⟨g, cap, cur, h1, _, hh, _⟩
  · omega
  · injection h1 with h1 _ _
    subst h1
    refine ⟨g, 0, x.2.1, x.2.2, rfl, (Array.getElem?_eq_some_iff.1 hh).1, fun j u hu => ?_, hb x (List.mem_of_getElem? hx)⟩
    have hj : j < 5 := (List.getElem?_eq_some_iff.1 hu).1
    have e := fmX_at xs i j x hx hj
    have := World.ownsRow.cells h (g := g) rfl (i * 5 + j) u (by rw [e]; exact hu)
    rw [addr_litC] at this
    rw [← this]
    congr 2
    omega
/-- A script that came in, with where its bytes lie. -/
theorem rdOc_split {n c : Nat} {a : Option Addr} {w : World} {os : List Oc} (h : RdOc w (.slice a n c) os) (h0 : 0 < n) : ∃ (xs : List OcX) (g off : Nat), a = some ⟨g, off, none⟩ ∧ xs.map (·.1) = os ∧ (∀ j u, (xs.flatMap ocX)[j]? = some u → w.cell? ⟨g, off + j, none⟩ = some u) ∧ ∀ x ∈ xs, RdB w (.slice x.2.1 x.1.bs.length x.2.2) x.1.bs := by
  obtain ⟨a', c', e, H⟩ := h
  injection e with e1 e2 e3
  subst e1
  obtain ⟨o0, ho0⟩ : ∃ o, os[0]? = some o := ⟨os[0]'(by omega), List.getElem?_eq_getElem _⟩
  obtain ⟨g, off, _, _, rfl, _, _, _⟩ := H 0 o0 ho0
  have key : ∀ i, ∃ p : Option Addr × Nat, ∀ o, os[i]? = some o → w.rangeAt g (off + i * 5) (ocL o p.1 p.2) ∧ RdB w (.slice p.1 o.bs.length p.2) o.bs := fun i => by
    cases hi : os[i]? with
    | none => exact ⟨(none, 0), fun o e => by cases e⟩
    | some o =>
      obtain ⟨g', off', x, cc, e, _, r1, r2⟩ := H i o hi
      injection e with e
      injection e with e1 e2
      subst e1 e2
      exact ⟨(x, cc), fun o' e => by injection e with e; subst e; exact ⟨r1, r2⟩⟩
  let f := fun i => Classical.choose (key i)
  have hf := fun i => Classical.choose_spec (key i)
  have xl : ((List.range os.length).map (fun i => ((os.getD i ⟨0, false, 0, 0, []⟩, f i) : OcX))).length = os.length := by simp
  have xat : ∀ i x, ((List.range os.length).map (fun i => ((os.getD i ⟨0, false, 0, 0, []⟩, f i) : OcX)))[i]? = some x → os[i]? = some x.1 ∧ x.2 = f i := fun i x hx => by
    have hi := (List.getElem?_eq_some_iff.1 hx).1
    rw [xl] at hi
    rw [List.getElem?_map, List.getElem?_range hi] at hx
    simp only [Option.map_some, Option.some.injEq] at hx
    subst hx
    exact ⟨by rw [List.getD_eq_getElem?_getD, List.getElem?_eq_getElem hi]; rfl, rfl⟩
  refine ⟨(List.range os.length).map (fun i => (os.getD i ⟨0, false, 0, 0, []⟩, f i)), g, off, rfl, ?_, fun j u hu => ?_, fun x hx => ?_⟩
  · apply List.ext_getElem?
    intro i
    rw [List.getElem?_map]
    cases hx : ((List.range os.length).map (fun i => ((os.getD i ⟨0, false, 0, 0, []⟩, f i) : OcX)))[i]? with
    | none =>
      have := List.getElem?_eq_none_iff.1 hx
      rw [xl] at this
      rw [List.getElem?_eq_none this]; rfl
    | some x => rw [(xat i x hx).1]; rfl
  · have hj := (List.getElem?_eq_some_iff.1 hu).1
    rw [fmX_len, xl] at hj
    obtain ⟨i, r, hr, rfl⟩ : ∃ i r, r < 5 ∧ j = i * 5 + r := ⟨j / 5, j % 5, Nat.mod_lt _ (by decide), by omega⟩
    obtain ⟨x, hx⟩ : ∃ x, ((List.range os.length).map (fun i => ((os.getD i ⟨0, false, 0, 0, []⟩, f i) : OcX)))[i]? = some x := ⟨_, List.getElem?_eq_getElem (by rw [xl]; omega)⟩
    rw [fmX_at _ i r x hx hr] at hu
    obtain ⟨h1, h2⟩ := xat i x hx
    have := (hf i x.1 h1).1 r u (by unfold ocX at hu; rw [h2] at hu; exact hu)
    rw [← this]
    congr 2
    omega
  · obtain ⟨i, hi⟩ := List.mem_iff_getElem?.1 hx
    obtain ⟨h1, h2⟩ := xat i x hi
    have := (hf i x.1 h1).2
    rw [h2]; exact this
theorem first4_ok (h : Nat) : ∀ o ∈ (first4 h).map (·.1), OcOk o ∧ o.bs.length ≤ 1048576 := fun o ho => by
  simp only [first4, List.map_cons, List.map_nil, List.mem_cons, List.not_mem_nil, or_false] at ho
  rcases ho with rfl | rfl | rfl | rfl <;> exact ⟨⟨⟨by decide, by decide⟩, ⟨by decide, by decide⟩, ⟨by decide, by decide⟩⟩, by decide⟩
theorem rdb_nil (w : World) : RdB w (.slice none 0 0) [] := ⟨none, 0, rfl, by simp, fun _ => rfl, fun i hi => by simp at hi⟩
theorem first4_rd {w : World} {h : Nat} (r : RdB w (.slice (some ⟨h, 0, none⟩) 2 2) [1, 2]) : ∀ x ∈ first4 h, RdB w (.slice x.2.1 x.1.bs.length x.2.2) x.1.bs := fun x hx => by
  simp only [first4, List.mem_cons, List.not_mem_nil, or_false] at hx
  rcases hx with rfl | rfl | rfl | rfl
  · exact r
  · exact rdb_nil w
  · exact rdb_nil w
  · exact rdb_nil w
set_option maxRecDepth 40000 in
set_option maxHeartbeats 2000000 in
theorem first_at (w : World) : Calls Try.prog 9 #[] w fun e w' => e = .returned (.slice (some ⟨w.heap.size + 1, 0, none⟩) 4 4) ∧ w'.ownsRow w.heap.size 30 5 (.slice (some ⟨w.heap.size + 1, 0, none⟩) 4 4) 4 ((first4 w.heap.size).flatMap ocX) ∧ RdB w' (.slice (some ⟨w.heap.size, 0, none⟩) 2 2) [1, 2] ∧ Below w.heap.size w w' := by
  have b1 := below_alloc w (.cells #[.int .u8 1, .int .u8 2] 5)
  have b2 := below_alloc (w.alloc (.cells #[.int .u8 1, .int .u8 2] 5)) (.cells #[.int .i64 1, .bool false, .int .i64 7, .int .i64 3, .slice (some ⟨w.heap.size, 0, none⟩) 2 2, .int .i64 3, .bool false, .int .i64 0, .int .i64 3, .slice none 0 0, .int .i64 4, .bool false, .int .i64 0, .int .i64 0, .slice none 0 0, .int .i64 2, .bool false, .int .i64 7, .int .i64 0, .slice none 0 0] 30)
  have FIN : Hid (((w.alloc (.cells #[.int .u8 1, .int .u8 2] 5)).alloc (.cells #[.int .i64 1, .bool false, .int .i64 7, .int .i64 3, .slice (some ⟨w.heap.size, 0, none⟩) 2 2, .int .i64 3, .bool false, .int .i64 0, .int .i64 3, .slice none 0 0, .int .i64 4, .bool false, .int .i64 0, .int .i64 0, .slice none 0 0, .int .i64 2, .bool false, .int .i64 7, .int .i64 0, .slice none 0 0] 30)).ownsRow w.heap.size 30 5 (.slice (some ⟨w.heap.size + 1, 0, none⟩) 4 4) 4 ((first4 w.heap.size).flatMap ocX) ∧ RdB ((w.alloc (.cells #[.int .u8 1, .int .u8 2] 5)).alloc (.cells #[.int .i64 1, .bool false, .int .i64 7, .int .i64 3, .slice (some ⟨w.heap.size, 0, none⟩) 2 2, .int .i64 3, .bool false, .int .i64 0, .int .i64 3, .slice none 0 0, .int .i64 4, .bool false, .int .i64 0, .int .i64 0, .slice none 0 0, .int .i64 2, .bool false, .int .i64 7, .int .i64 0, .slice none 0 0] 30)) (.slice (some ⟨w.heap.size, 0, none⟩) 2 2) [1, 2] ∧ Below w.heap.size w ((w.alloc (.cells #[.int .u8 1, .int .u8 2] 5)).alloc (.cells #[.int .i64 1, .bool false, .int .i64 7, .int .i64 3, .slice (some ⟨w.heap.size, 0, none⟩) 2 2, .int .i64 3, .bool false, .int .i64 0, .int .i64 3, .slice none 0 0, .int .i64 4, .bool false, .int .i64 0, .int .i64 0, .slice none 0 0, .int .i64 2, .bool false, .int .i64 7, .int .i64 0, .slice none 0 0] 30))) := by
    have k1 : Blk w.heap.size 5 [.int .u8 1, .int .u8 2] (w.alloc (.cells #[.int .u8 1, .int .u8 2] 5)) := Blk.new _ [.int .u8 1, .int .u8 2] _
    have k2 : Blk (w.heap.size + 1) 30 [.int .i64 1, .bool false, .int .i64 7, .int .i64 3, .slice (some ⟨w.heap.size, 0, none⟩) 2 2, .int .i64 3, .bool false, .int .i64 0, .int .i64 3, .slice none 0 0, .int .i64 4, .bool false, .int .i64 0, .int .i64 0, .slice none 0 0, .int .i64 2, .bool false, .int .i64 7, .int .i64 0, .slice none 0 0] ((w.alloc (.cells #[.int .u8 1, .int .u8 2] 5)).alloc (.cells #[.int .i64 1, .bool false, .int .i64 7, .int .i64 3, .slice (some ⟨w.heap.size, 0, none⟩) 2 2, .int .i64 3, .bool false, .int .i64 0, .int .i64 3, .slice none 0 0, .int .i64 4, .bool false, .int .i64 0, .int .i64 0, .slice none 0 0, .int .i64 2, .bool false, .int .i64 7, .int .i64 0, .slice none 0 0] 30)) := Blk.new2 _ [.int .i64 1, .bool false, .int .i64 7, .int .i64 3, .slice (some ⟨w.heap.size, 0, none⟩) 2 2, .int .i64 3, .bool false, .int .i64 0, .int .i64 3, .slice none 0 0, .int .i64 4, .bool false, .int .i64 0, .int .i64 0, .slice none 0 0, .int .i64 2, .bool false, .int .i64 7, .int .i64 0, .slice none 0 0] _ _
    have k3 := k1.below b2
    refine ⟨⟨rfl, .inr ⟨w.heap.size + 1, 4, _, rfl, by omega, k2, by omega, by unfold maxLen; omega, rfl, rfl⟩⟩, ⟨some ⟨w.heap.size, 0, none⟩, 2, rfl, by simp, (fun h => by cases h), fun i hi => ⟨w.heap.size, 0, rfl, k3.lt, ?_⟩⟩, below_trans b1 b2⟩
    rw [Nat.zero_add]
    match i, hi with
    | 0, _ => exact k3.cell 0 _ rfl
    | 1, _ => exact k3.cell 1 _ rfl
  clear b1 b2
  go_enter Try.func9, Try.ntmps9
  go_wp2_with fail
  go_ret
  exact ⟨rfl, FIN.out⟩
end Go.Proofs.Yteppdlaoeoeplaa
