/-
  Ours: New, Put, Get, Next, PopDue, Len.
-/
import Derived.Test.YtfdehlfhnlgcjaaDoorTqTake
namespace Go.Proofs.YtfdehlfhnlgcjaaDoor
open Go.RowKit TqM

namespace TQ
/-- A new queue, its blocks all new. -/
def NewQ (w : World) (e : Ending) (w' : World) : Prop := ∃ R S, e = .returned (.pointer (some ⟨R, 0, none⟩)) ∧ QAt R S [] w' ∧ (∀ g, S g → w.heap.size ≤ g) ∧ Below w.heap.size w w'

set_option maxRecDepth 20000 in
set_option maxHeartbeats 2000000 in
theorem new_at (w : World) : Calls Tryd.prog 10 #[] w (NewQ w) := by
  have hmm := @run_makeMap Tryd.prog
  have F0 : Hid (NewQ w (.returned (.pointer (some ⟨w.heap.size + 1, 0, none⟩))) ((w.alloc (.map #[] 0)).alloc (.cells #[.slice none 0 0, .map (some w.heap.size)] 54))) := by
    have b := below_trans (below_alloc w (.map #[] 0)) (below_alloc (w.alloc (.map #[] 0)) (.cells #[.slice none 0 0, .map (some w.heap.size)] 54))
    have z : ((w.alloc (.map #[] 0)).alloc (.cells #[.slice none 0 0, .map (some w.heap.size)] 54)).heap.size = w.heap.size + 1 + 1 := by simp
    have hb := Blk.new2 54 [.slice none 0 0, .map (some w.heap.size)] w (.map #[] 0)
    have hm := (MapAt.new w 0).same ((below_alloc (w.alloc (.map #[] 0)) (.cells #[.slice none 0 0, .map (some w.heap.size)] 54)).block w.heap.size (by simp))
    refine ⟨w.heap.size + 1, fun g => w.heap.size ≤ g ∧ g < w.heap.size + 2, rfl, ⟨w.heap.size, .slice none 0 0, [], fun _ => none, ⟨hb, World.ownsRow_nil _ _ _ _, hm, fun g hg => by rw [z]; omega, ⟨by omega, by omega⟩, ⟨by omega, by omega⟩, fun g hg => by cases hg⟩, ?_⟩, fun g hg => hg.1, b⟩
    exact ⟨fun i x y _ hx => by simp at hx, fun x i => by simp, List.Perm.refl _⟩
  go_enter Tryd.func10, Tryd.ntmps10
  go_wp2_with fail
  go_ret
  exact F0.out

set_option maxRecDepth 20000 in
set_option maxHeartbeats 2000000 in
theorem len_at (R : Nat) (S : Nat → Prop) (L : List (Ky × Int)) (w : World) (h : QAt R S L w) :
    Calls Tryd.prog 41 #[.pointer (some ⟨R, 0, none⟩)] w fun e w' => e = .returned (.int .i64 (L.length : Int)) ∧ w' = w := by
  obtain ⟨bm, vh, hp, f, q, hs⟩ := h
  have hl := hs.perm.length_eq
  have c0 := q.blk.cell 0 _ rfl
  rw [← hl]
  rcases q.row.open with ⟨rfl, rfl⟩ | ⟨g, n, cap, cur, rfl, r⟩
  · clear q hs hl
    go_enter Tryd.func41, Tryd.ntmps41
    go_wp2_with fail
    go_ret
    exact ⟨rfl, rfl⟩
  · rw [r.len]
    clear q hs hl r
    go_enter Tryd.func41, Tryd.ntmps41
    go_wp2_with fail
    go_ret
    exact ⟨rfl, rfl⟩

set_option maxRecDepth 20000 in
set_option maxHeartbeats 2000000 in
theorem put_no (R : Nat) (S : Nat → Prop) (L : List (Ky × Int)) (w : World) (k : Ky) (v : Int) (h : QAt R S L w) (hk : k ∈ L.map (·.1)) :
    Calls Tryd.prog 13 #[.pointer (some ⟨R, 0, none⟩), kyV k, .int .i64 v] w fun e w' => e = .returned (.int .i64 110) ∧ QPost R S w L w' := by
  obtain ⟨bm, vh, hp, f, q, hs⟩ := h
  obtain ⟨i, hf⟩ : ∃ i, f k = some i := by
    cases hf : f k with
    | none => exact absurd hk ((hs.absent k).1 hf)
    | some i => exact ⟨i, rfl⟩
  have F0 : Hid (QPost R S w L (w.alloc (.cells #[.int .i64 k.d, .int .i64 k.l, .int .i64 k.n] 24)).drew) := QPost.refl ⟨bm, vh, hp, f, q, hs⟩ (Below.drew (below_alloc _ _))
  have q1 := q.below (Below.drew (below_alloc w (.cells #[.int .i64 k.d, .int .i64 k.l, .int .i64 k.n] 24)))
  have r1 : (Instr.lookup 51 (.map (some bm)) (.agg #[.int .i64 k.d, .int .i64 k.l, .int .i64 k.n]) true).run Tryd.prog (w.alloc (.cells #[.int .i64 k.d, .int .i64 k.l, .int .i64 k.n] 24)).drew = .ok (.tuple #[.int .i64 (i : Int), .bool true]) (w.alloc (.cells #[.int .i64 k.d, .int .i64 k.l, .int .i64 k.n] 24)).drew := by
    have := q1.mp.look k
    rw [hf] at this
    exact this
  have c1 := q.blk.cell 1 _ rfl
  have ltR := q.blk.lt
  clear q hs q1 hk hf
  go_enter Tryd.func13, Tryd.ntmps13
  go_upto_region 1 with fail
  go_region
  go_wp2_with fail
  go_ret
  exact ⟨rfl, F0.out⟩

theorem QPost.trans {R : Nat} {S : Nat → Prop} {L : List (Ky × Int)} {w w1 w' : World} (b : Below w.heap.size w w1) (h : QPost R S w1 L w') : QPost R S w L w' := by
  obtain ⟨S', h1, h2, h3⟩ := h
  exact ⟨S', h1, fun g hg => (h2 g hg).imp id (fun h => Nat.le_trans b.size h), (Kp.of_below b S).trans h3 (fun _ _ h => h)⟩

set_option maxRecDepth 20000 in
set_option maxHeartbeats 2000000 in
theorem put_yes (R : Nat) (S : Nat → Prop) (L : List (Ky × Int)) (w : World) (k : Ky) (v : Int) (h : QAt R S L w) (hl : L.length < 1000000000000) (hk : k ∉ L.map (·.1)) :
    Calls Tryd.prog 13 #[.pointer (some ⟨R, 0, none⟩), kyV k, .int .i64 v] w fun e w' => e = .returned (.int .i64 0) ∧ QPost R S w ((k, v) :: L) w' := by
  obtain ⟨bm, vh, hp, f, q, hs⟩ := h
  have hf := (hs.absent k).2 hk
  have hlp := hs.perm.length_eq
  have q1 := q.below (Below.drew (below_alloc w (.cells #[.int .i64 k.d, .int .i64 k.l, .int .i64 k.n] 24)))
  have AD : Hid (Calls Tryd.prog 28 #[.pointer (some ⟨R, 0, none⟩), .agg #[.int .i64 k.d, .int .i64 k.l, .int .i64 k.n, .int .i64 v]] (w.alloc (.cells #[.int .i64 k.d, .int .i64 k.l, .int .i64 k.n] 24)).drew fun e w' => e = .returned (.tuple #[]) ∧ QPost R S w ((k, v) :: L) w') := (add_at R bm S hp f vh _ (k, v) L (by omega) q1 hs hf).mono (by rintro e w' ⟨rfl, h⟩; exact ⟨rfl, h.trans (Below.drew (below_alloc _ _))⟩)
  have r1 : (Instr.lookup 51 (.map (some bm)) (.agg #[.int .i64 k.d, .int .i64 k.l, .int .i64 k.n]) true).run Tryd.prog (w.alloc (.cells #[.int .i64 k.d, .int .i64 k.l, .int .i64 k.n] 24)).drew = .ok (.tuple #[.int .i64 0, .bool false]) (w.alloc (.cells #[.int .i64 k.d, .int .i64 k.l, .int .i64 k.n] 24)).drew := by
    have := q1.mp.look k
    rw [hf] at this
    exact this
  have c1 := q.blk.cell 1 _ rfl
  have ltR := q.blk.lt
  clear q hs q1 hk hf hlp
  go_enter Tryd.func13, Tryd.ntmps13
  go_upto_region 1 with fail
  go_region
  go_wp2_with fail
  refine AD.out.mono ?_
  rintro e w2 ⟨rfl, h2⟩
  have H2 : Hid (QPost R S w ((k, v) :: L) w2) := h2
  clear h2 AD
  go_wp2_with fail
  go_ret
  exact ⟨rfl, H2.out⟩

set_option maxRecDepth 20000 in
set_option maxHeartbeats 2000000 in
theorem get_no (R : Nat) (S : Nat → Prop) (L : List (Ky × Int)) (w : World) (k : Ky) (h : QAt R S L w) (hk : k ∉ L.map (·.1)) :
    Calls Tryd.prog 31 #[.pointer (some ⟨R, 0, none⟩), kyV k] w fun e w' => e = .returned (.tuple #[.int .i64 0, .bool false]) ∧ Below w.heap.size w w' := by
  obtain ⟨bm, vh, hp, f, q, hs⟩ := h
  have hf := (hs.absent k).2 hk
  have q1 := q.below (Below.drew (below_alloc w (.cells #[.int .i64 k.d, .int .i64 k.l, .int .i64 k.n] 24)))
  have r1 : (Instr.lookup 51 (.map (some bm)) (.agg #[.int .i64 k.d, .int .i64 k.l, .int .i64 k.n]) true).run Tryd.prog (w.alloc (.cells #[.int .i64 k.d, .int .i64 k.l, .int .i64 k.n] 24)).drew = .ok (.tuple #[.int .i64 0, .bool false]) (w.alloc (.cells #[.int .i64 k.d, .int .i64 k.l, .int .i64 k.n] 24)).drew := by
    have := q1.mp.look k
    rw [hf] at this
    exact this
  have c1 := q.blk.cell 1 _ rfl
  have ltR := q.blk.lt
  have F0 : Hid (Below w.heap.size w (w.alloc (.cells #[.int .i64 k.d, .int .i64 k.l, .int .i64 k.n] 24)).drew) := Below.drew (below_alloc _ _)
  clear q hs q1 hk hf
  go_enter Tryd.func31, Tryd.ntmps31
  go_upto_region 1 with fail
  go_region
  go_wp2_with fail
  go_ret2
  exact ⟨rfl, F0.out⟩

set_option maxRecDepth 20000 in
set_option maxHeartbeats 2000000 in
theorem get_yes (R : Nat) (S : Nat → Prop) (L : List (Ky × Int)) (w : World) (k : Ky) (v : Int) (h : QAt R S L w) (hk : (k, v) ∈ L) :
    Calls Tryd.prog 31 #[.pointer (some ⟨R, 0, none⟩), kyV k] w fun e w' => e = .returned (.tuple #[.int .i64 v, .bool true]) ∧ Below w.heap.size w w' := by
  obtain ⟨bm, vh, hp, f, q, hs⟩ := h
  obtain ⟨i, hi, hiv⟩ := List.getElem_of_mem (hs.perm.mem_iff.2 hk)
  have hi' : hp[i]? = some (k, v) := by rw [List.getElem?_eq_getElem hi, hiv]
  have hf : f k = some i := (hs.pls k i).2 ⟨v, hi'⟩
  have q1 := q.below (Below.drew (below_alloc w (.cells #[.int .i64 k.d, .int .i64 k.l, .int .i64 k.n] 24)))
  have r1 : (Instr.lookup 51 (.map (some bm)) (.agg #[.int .i64 k.d, .int .i64 k.l, .int .i64 k.n]) true).run Tryd.prog (w.alloc (.cells #[.int .i64 k.d, .int .i64 k.l, .int .i64 k.n] 24)).drew = .ok (.tuple #[.int .i64 (i : Int), .bool true]) (w.alloc (.cells #[.int .i64 k.d, .int .i64 k.l, .int .i64 k.n] 24)).drew := by
    have := q1.mp.look k
    rw [hf] at this
    exact this
  have c1 := q.blk.cell 1 _ rfl
  have c0 := q.blk.cell 0 _ rfl
  have ltR := q.blk.lt
  have F0 : Hid (Below w.heap.size w (w.alloc (.cells #[.int .i64 k.d, .int .i64 k.l, .int .i64 k.n] 24)).drew) := Below.drew (below_alloc _ _)
  rcases q.row.open with ⟨rfl, rfl⟩ | ⟨g, n, cap, cur, rfl, r⟩
  · simp at hi
  · obtain ⟨y0, y1, y2, y3⟩ := QG.cells (⟨q, r.len⟩ : QG R bm g n cap S hp f w) hi'
    have ltg : g < w.heap.size := q.s g (q.sv g rfl).1
    have hin : (i : Int) < (n : Int) := by have := r.len; omega
    have hin' : i < n := by omega
    have hle := QG.le (⟨q, r.len⟩ : QG R bm g n cap S hp f w)
    clear q hs q1 hk hf r hi' hiv hi
    go_enter Tryd.func31, Tryd.ntmps31
    go_upto_region 1 with fail
    go_region
    go_wp2_with fail
    go_ret2
    exact ⟨rfl, F0.out⟩

theorem ret_blk_tmp2 {P : Program} {fn : Func} {R : Ending → World → Prop} {a : Act} {w : World} {p u v : Tmp} {ty : TypeId} (h : fn.results = #[.cell p ty, .tmp u, .tmp v]) (hdf : a.defers = [])
    (g : Nat) (t : TypeId) (cs : List Value) (d : TypeDesc) (hp : a.tmps.getD p undef = .pointer (some ⟨g, 0, none⟩)) (hg : Blk g t cs w)
    (hu : P.underlying ty = some d) (hd : (match d with | .struct _ | .array _ _ => true | _ => false) = true) (hi : (P.info? ty).map (·.size) = some cs.length)
    (hR : R (.returned (.tuple #[.agg cs.toArray, a.tmps.getD u undef, a.tmps.getD v undef])) w) : bodyPost P fn R .ret a w := by
  refine bodyPost_ret_by ?_ hdf hR
  have hp' : a.tmps[p]?.getD undef = .pointer (some ⟨g, 0, none⟩) := by simpa using hp
  simp only [results, h]
  simp [Result.andThen, hp', asAddr, run_loadVar_row w g t ty cs.toArray (0, 0) d hg hu hd (by simpa using hi)]
theorem infoKy (k : Ky) : (Tryd.prog.info? 24).map (·.size) = some (kyL k).length := by show _ = some 3; kernel_rfl

/-- The least of the list. -/
def Least (z : Ky × Int) (L : List (Ky × Int)) : Prop := z ∈ L ∧ ∀ x ∈ L, x = z ∨ TqM.lt z.1 x.1
theorem Least.uniq {z y : Ky × Int} {L : List (Ky × Int)} (h : Least z L) (k : Least y L) : y = z := by
  rcases h.2 y k.1 with e | h1
  · exact e
  · rcases k.2 z h.1 with e | h2
    · exact e.symm
    · exact absurd h2 (lt_asym h1)

set_option maxRecDepth 20000 in
set_option maxHeartbeats 2000000 in
theorem next_none (R : Nat) (S : Nat → Prop) (w : World) (h : QAt R S [] w) :
    Calls Tryd.prog 38 #[.pointer (some ⟨R, 0, none⟩)] w fun e w' => e = .returned (.tuple #[kyV ⟨0, 0, 0⟩, .bool false]) ∧ Below w.heap.size w w' := by
  obtain ⟨bm, vh, hp, f, q, hs⟩ := h
  have c0 := q.blk.cell 0 _ rfl
  have ltR := q.blk.lt
  have hp0 : hp = [] := List.eq_nil_of_length_eq_zero (by simpa using hs.perm.length_eq)
  obtain ⟨a, cap, rfl⟩ : ∃ a cap, vh = .slice a 0 cap := by
    rcases q.row.open with ⟨rfl, rfl⟩ | ⟨g, n, cap, cur, rfl, r⟩
    · exact ⟨_, _, rfl⟩
    · have := r.len
      rw [hp0] at this
      cases this
      exact ⟨_, _, rfl⟩
  have F0 : Hid (Blk w.heap.size 24 (kyL ⟨0, 0, 0⟩) (w.alloc (.cells #[.int .i64 0, .int .i64 0, .int .i64 0] 24)) ∧ Below w.heap.size w (w.alloc (.cells #[.int .i64 0, .int .i64 0, .int .i64 0] 24))) := ⟨Blk.new 24 (kyL ⟨0, 0, 0⟩) w, below_alloc _ _⟩
  clear q hs hp0
  go_enter Tryd.func38, Tryd.ntmps38
  go_wp2_with fail
  exact ret_blk_tmp rfl rfl w.heap.size _ (kyL ⟨0, 0, 0⟩) _ rfl F0.out.1 Tryd.underlying24 rfl (infoKy _) ⟨rfl, F0.out.2⟩

set_option maxRecDepth 20000 in
set_option maxHeartbeats 2000000 in
theorem next_some (R : Nat) (S : Nat → Prop) (L : List (Ky × Int)) (w : World) (z : Ky × Int) (h : QAt R S L w) (hz : Least z L) :
    Calls Tryd.prog 38 #[.pointer (some ⟨R, 0, none⟩)] w fun e w' => e = .returned (.tuple #[kyV z.1, .bool true]) ∧ Below w.heap.size w w' := by
  obtain ⟨bm, vh, hp, f, q, hs⟩ := h
  have c0 := q.blk.cell 0 _ rfl
  have ltR := q.blk.lt
  rcases q.row.open with ⟨rfl, rfl⟩ | ⟨g, n, cap, cur, rfl, r⟩
  · have := hs.perm.mem_iff.2 hz.1
    cases this
  have h0 : 0 < n := by
    have := hs.perm.mem_iff.2 hz.1
    have := List.length_pos_of_mem this
    have := r.len
    omega
  obtain ⟨y, hy⟩ : ∃ y, hp[0]? = some y := ⟨hp[0]'(by have := r.len; omega), List.getElem?_eq_getElem _⟩
  obtain rfl : y = z := hz.uniq (hs.least hy)
  obtain ⟨y0, y1, y2, y3⟩ := QG.cells (⟨q, r.len⟩ : QG R bm g n cap S hp f w) hy
  rw [Nat.zero_mul] at y0 y1 y2
  have ltg : g < w.heap.size := q.s g (q.sv g rfl).1
  have n0 : ((n : Int) == 0) = false := by simp; omega
  have F0 : Hid (Blk w.heap.size 24 (kyL y.1) (w.alloc (.cells #[.int .i64 y.1.d, .int .i64 y.1.l, .int .i64 y.1.n] 24)) ∧ Below w.heap.size w (w.alloc (.cells #[.int .i64 y.1.d, .int .i64 y.1.l, .int .i64 y.1.n] 24))) := ⟨Blk.new 24 (kyL y.1) w, below_alloc _ _⟩
  have h0' : (0 : Int) < (n : Int) := by omega
  clear q hs r hy hz y3
  go_enter Tryd.func38, Tryd.ntmps38
  go_wp2_with fail
  exact ret_blk_tmp rfl rfl w.heap.size _ (kyL y.1) _ rfl F0.out.1 Tryd.underlying24 rfl (infoKy _) ⟨rfl, F0.out.2⟩

/-- What PopDue leaves where nothing is due. -/
def NotDue (w : World) (e : Ending) (w' : World) : Prop := e = .returned (.tuple #[kyV ⟨0, 0, 0⟩, .int .i64 0, .bool false]) ∧ Below w.heap.size w w'

/-- Three cells of a block that is new. -/
theorem out3 {Q : Nat} {w w2 : World} {x k : Ky} (hb : Blk Q 24 (kyL x) w2) (hw : Below Q w w2) (hQ : w.heap.size = Q) (o : Obj) :
    Blk Q 24 (kyL k) ((((w2.setCell ⟨Q, 0, none⟩ (.int .i64 k.d)).setCell ⟨Q, 1, none⟩ (.int .i64 k.l)).setCell ⟨Q, 2, none⟩ (.int .i64 k.n)).alloc o) ∧ Below Q w ((((w2.setCell ⟨Q, 0, none⟩ (.int .i64 k.d)).setCell ⟨Q, 1, none⟩ (.int .i64 k.l)).setCell ⟨Q, 2, none⟩ (.int .i64 k.n)).alloc o) := by
  have b3 : Blk Q 24 (kyL k) (((w2.setCell ⟨Q, 0, none⟩ (.int .i64 k.d)).setCell ⟨Q, 1, none⟩ (.int .i64 k.l)).setCell ⟨Q, 2, none⟩ (.int .i64 k.n)) := ((hb.set (i := 0) (.int .i64 k.d)).set (i := 1) (.int .i64 k.l)).set (i := 2) (.int .i64 k.n)
  have g3 := grownBy_trans (grownBy_trans (setCell_grown w2 Q 0 (.int .i64 k.d)) (setCell_grown _ Q 1 (.int .i64 k.l))) (setCell_grown _ Q 2 (.int .i64 k.n))
  subst hQ
  exact ⟨b3.old o, below_trans (below_row hw g3 (Nat.le_refl _)) (below_alloc _ _)⟩

set_option maxRecDepth 20000 in
set_option maxHeartbeats 2000000 in
theorem pop_none (R : Nat) (S : Nat → Prop) (w : World) (day : Int) (h : QAt R S [] w) :
    Calls Tryd.prog 43 #[.pointer (some ⟨R, 0, none⟩), .int .i64 day] w (NotDue w) := by
  have NX : Hid (∀ w', Below w.heap.size w w' → Calls Tryd.prog 38 #[.pointer (some ⟨R, 0, none⟩)] w' fun e w2 => e = .returned (.tuple #[kyV ⟨0, 0, 0⟩, .bool false]) ∧ Below w'.heap.size w' w2) := fun w' b => next_none R S w' (h.below b)
  have F0 : Hid (Blk w.heap.size 24 (kyL ⟨0, 0, 0⟩) (w.alloc (.cells #[.int .i64 0, .int .i64 0, .int .i64 0] 24)) ∧ Below w.heap.size w (w.alloc (.cells #[.int .i64 0, .int .i64 0, .int .i64 0] 24))) := ⟨Blk.new 24 (kyL ⟨0, 0, 0⟩) w, below_alloc _ _⟩
  clear h
  go_enter Tryd.func43, Tryd.ntmps43
  go_wp2_with fail
  refine (NX.out _ F0.out.2).mono ?_
  rintro e w2 ⟨rfl, b2⟩
  have F2 : Hid (Blk w.heap.size 24 (kyL ⟨0, 0, 0⟩) w2 ∧ Below w.heap.size w w2) := ⟨F0.out.1.below b2, below_trans F0.out.2 b2⟩
  clear F0 b2 NX
  obtain ⟨Q, hQ⟩ : ∃ Q, w.heap.size = Q := ⟨_, rfl⟩
  have HQ : Hid (w.heap.size = Q) := hQ
  rw [hQ] at F2 ⊢
  clear hQ
  have a0 := F2.out.1.cell 0 _ rfl
  have a1 := F2.out.1.cell 1 _ rfl
  have a2 := F2.out.1.cell 2 _ rfl
  have f0 := F2.out.1.fz 0
  have f1 := F2.out.1.fz 1
  have f2 := F2.out.1.fz 2
  have ltQ := F2.out.1.lt
  go_wp2_with fail
  have FN : Hid (Blk Q 24 (kyL ⟨0, 0, 0⟩) ((((w2.setCell ⟨Q, 0, none⟩ (.int .i64 0)).setCell ⟨Q, 1, none⟩ (.int .i64 0)).setCell ⟨Q, 2, none⟩ (.int .i64 0)).alloc (.cells #[.int .i64 0, .int .i64 0, .int .i64 0] 24)) ∧ Below Q w ((((w2.setCell ⟨Q, 0, none⟩ (.int .i64 0)).setCell ⟨Q, 1, none⟩ (.int .i64 0)).setCell ⟨Q, 2, none⟩ (.int .i64 0)).alloc (.cells #[.int .i64 0, .int .i64 0, .int .i64 0] 24))) := out3 (k := ⟨0, 0, 0⟩) F2.out.1 F2.out.2 HQ.out _
  generalize (((w2.setCell ⟨Q, 0, none⟩ (.int .i64 0)).setCell ⟨Q, 1, none⟩ (.int .i64 0)).setCell ⟨Q, 2, none⟩ (.int .i64 0)).alloc (.cells #[.int .i64 0, .int .i64 0, .int .i64 0] 24) = w9 at *
  refine ret_blk_tmp2 rfl rfl Q _ (kyL ⟨0, 0, 0⟩) _ rfl FN.out.1 Tryd.underlying24 rfl (infoKy _) ⟨rfl, ?_⟩
  rw [HQ.out]
  exact FN.out.2

set_option maxRecDepth 20000 in
set_option maxHeartbeats 2000000 in
theorem pop_late (R : Nat) (S : Nat → Prop) (L : List (Ky × Int)) (w : World) (day : Int) (z : Ky × Int) (h : QAt R S L w) (hz : Least z L) (hd : day < z.1.d) :
    Calls Tryd.prog 43 #[.pointer (some ⟨R, 0, none⟩), .int .i64 day] w (NotDue w) := by
  have NX : Hid (∀ w', Below w.heap.size w w' → Calls Tryd.prog 38 #[.pointer (some ⟨R, 0, none⟩)] w' fun e w2 => e = .returned (.tuple #[.agg #[.int .i64 z.1.d, .int .i64 z.1.l, .int .i64 z.1.n], .bool true]) ∧ Below w'.heap.size w' w2) := fun w' b => next_some R S L w' z (h.below b) hz
  have F0 : Hid (Blk w.heap.size 24 (kyL ⟨0, 0, 0⟩) (w.alloc (.cells #[.int .i64 0, .int .i64 0, .int .i64 0] 24)) ∧ Below w.heap.size w (w.alloc (.cells #[.int .i64 0, .int .i64 0, .int .i64 0] 24))) := ⟨Blk.new 24 (kyL ⟨0, 0, 0⟩) w, below_alloc _ _⟩
  have hd' : decide (day < z.1.d) = true := decide_eq_true hd
  clear h hz
  generalize z.1.d = z0 at *
  generalize z.1.l = z1 at *
  generalize z.1.n = z2 at *
  go_enter Tryd.func43, Tryd.ntmps43
  go_wp2_with fail
  refine (NX.out _ F0.out.2).mono ?_
  rintro e w2 ⟨rfl, b2⟩
  have F2 : Hid (Blk w.heap.size 24 (kyL ⟨0, 0, 0⟩) w2 ∧ Below w.heap.size w w2) := ⟨F0.out.1.below b2, below_trans F0.out.2 b2⟩
  clear F0 b2 NX
  obtain ⟨Q, hQ⟩ : ∃ Q, w.heap.size = Q := ⟨_, rfl⟩
  have HQ : Hid (w.heap.size = Q) := hQ
  rw [hQ] at F2 ⊢
  clear hQ
  have a0 := F2.out.1.cell 0 _ rfl
  have a1 := F2.out.1.cell 1 _ rfl
  have a2 := F2.out.1.cell 2 _ rfl
  have f0 := F2.out.1.fz 0
  have f1 := F2.out.1.fz 1
  have f2 := F2.out.1.fz 2
  have ltQ := F2.out.1.lt
  go_wp2_with fail
  have FN : Hid (Blk Q 24 (kyL ⟨0, 0, 0⟩) ((((w2.setCell ⟨Q, 0, none⟩ (.int .i64 0)).setCell ⟨Q, 1, none⟩ (.int .i64 0)).setCell ⟨Q, 2, none⟩ (.int .i64 0)).alloc (.cells #[.int .i64 z0, .int .i64 z1, .int .i64 z2] 24)) ∧ Below Q w ((((w2.setCell ⟨Q, 0, none⟩ (.int .i64 0)).setCell ⟨Q, 1, none⟩ (.int .i64 0)).setCell ⟨Q, 2, none⟩ (.int .i64 0)).alloc (.cells #[.int .i64 z0, .int .i64 z1, .int .i64 z2] 24))) := out3 (k := ⟨0, 0, 0⟩) F2.out.1 F2.out.2 HQ.out _
  generalize (((w2.setCell ⟨Q, 0, none⟩ (.int .i64 0)).setCell ⟨Q, 1, none⟩ (.int .i64 0)).setCell ⟨Q, 2, none⟩ (.int .i64 0)).alloc (.cells #[.int .i64 z0, .int .i64 z1, .int .i64 z2] 24) = w9 at *
  refine ret_blk_tmp2 rfl rfl Q _ (kyL ⟨0, 0, 0⟩) _ rfl FN.out.1 Tryd.underlying24 rfl (infoKy _) ⟨rfl, ?_⟩
  rw [HQ.out]
  exact FN.out.2

theorem takeOut_least (R : Nat) (S : Nat → Prop) (L : List (Ky × Int)) (w : World) (z : Ky × Int) (h : QAt R S L w) (hl : L.length ≤ 1000000000000) (hz : Least z L) :
    Calls Tryd.prog 34 #[.pointer (some ⟨R, 0, none⟩), .int .i64 0] w fun e w' => e = .returned (tmV z) ∧ ∃ L', L.Perm (z :: L') ∧ QAt R S L' w' ∧ Kp S w w' := by
  obtain ⟨bm, vh, hp, f, q, hs⟩ := h
  have hlp := hs.perm.length_eq
  rcases q.row.open with ⟨rfl, rfl⟩ | ⟨g, n, cap, cur, rfl, r⟩
  · have := hs.perm.mem_iff.2 hz.1
    cases this
  have h0 : 0 < n := by
    have := hs.perm.mem_iff.2 hz.1
    have := List.length_pos_of_mem this
    have := r.len
    omega
  obtain ⟨y, hy⟩ : ∃ y, hp[0]? = some y := ⟨hp[0]'(by have := r.len; omega), List.getElem?_eq_getElem _⟩
  obtain rfl : y = z := hz.uniq (hs.least hy)
  exact takeOut_at R bm g n cap S hp f w y 0 L (by have := r.len; omega) ⟨q, r.len⟩ hs hy

set_option maxRecDepth 20000 in
set_option maxHeartbeats 2000000 in
theorem pop_yes (R : Nat) (S : Nat → Prop) (L : List (Ky × Int)) (w : World) (day : Int) (z : Ky × Int) (h : QAt R S L w) (hl : L.length ≤ 1000000000000) (hz : Least z L) (hd : z.1.d ≤ day) :
    Calls Tryd.prog 43 #[.pointer (some ⟨R, 0, none⟩), .int .i64 day] w fun e w' => e = .returned (.tuple #[kyV z.1, .int .i64 z.2, .bool true]) ∧ ∃ L', L.Perm (z :: L') ∧ QAt R S L' w' ∧ Kp S w w' := by
  have NX : Hid (∀ w', Below w.heap.size w w' → Calls Tryd.prog 38 #[.pointer (some ⟨R, 0, none⟩)] w' fun e w2 => e = .returned (.tuple #[.agg #[.int .i64 z.1.d, .int .i64 z.1.l, .int .i64 z.1.n], .bool true]) ∧ Below w'.heap.size w' w2) := fun w' b => next_some R S L w' z (h.below b) hz
  have TK : Hid (∀ w', Below w.heap.size w w' → Calls Tryd.prog 34 #[.pointer (some ⟨R, 0, none⟩), .int .i64 0] w' fun e w'' => e = .returned (.agg #[.int .i64 z.1.d, .int .i64 z.1.l, .int .i64 z.1.n, .int .i64 z.2]) ∧ ∃ L', L.Perm (z :: L') ∧ QAt R S L' w'' ∧ Kp S w' w'') := fun w' b => takeOut_least R S L w' z (h.below b) hl hz
  have F0 : Hid (Blk w.heap.size 24 (kyL ⟨0, 0, 0⟩) (w.alloc (.cells #[.int .i64 0, .int .i64 0, .int .i64 0] 24)) ∧ Below w.heap.size w (w.alloc (.cells #[.int .i64 0, .int .i64 0, .int .i64 0] 24))) := ⟨Blk.new 24 (kyL ⟨0, 0, 0⟩) w, below_alloc _ _⟩
  have SB : Hid (∀ g, S g → g < w.heap.size) := h.s
  have hd' : decide (day < z.1.d) = false := decide_eq_false (by omega)
  clear h hz
  go_enter Tryd.func43, Tryd.ntmps43
  go_wp2_with fail
  refine (NX.out _ F0.out.2).mono ?_
  rintro e w2 ⟨rfl, b2⟩
  have F2 : Hid (Blk w.heap.size 24 (kyL ⟨0, 0, 0⟩) (w2.alloc (.cells #[.int .i64 z.1.d, .int .i64 z.1.l, .int .i64 z.1.n] 24)) ∧ Below w.heap.size w (w2.alloc (.cells #[.int .i64 z.1.d, .int .i64 z.1.l, .int .i64 z.1.n] 24))) := ⟨(F0.out.1.below b2).below (below_alloc _ _), below_trans (below_trans F0.out.2 b2) (below_alloc _ _)⟩
  clear F0 b2 NX
  go_wp2_with fail
  refine (TK.out _ F2.out.2).mono ?_
  rintro e w3 ⟨rfl, L', hp', hq, hk⟩
  have F3 : Hid (Blk w.heap.size 24 (kyL ⟨0, 0, 0⟩) w3 ∧ QAt R S L' w3 ∧ Kp S w w3 ∧ L.Perm (z :: L')) := ⟨F2.out.1.kp hk (fun h => by have := SB.out _ h; omega), hq, (Kp.of_below F2.out.2 S).trans hk (fun _ _ h => h), hp'⟩
  clear F2 TK hp' hq hk
  obtain ⟨Q, hQ⟩ : ∃ Q, w.heap.size = Q := ⟨_, rfl⟩
  have HQ : Hid (w.heap.size = Q) := hQ
  rw [hQ] at F3 ⊢
  clear hQ
  go_upto_region 6 with fail
  have F4 : Hid (Blk Q 24 (kyL ⟨0, 0, 0⟩) (w3.alloc (.cells #[.int .i64 z.1.d, .int .i64 z.1.l, .int .i64 z.1.n, .int .i64 z.2] 63)) ∧ QAt R S L' (w3.alloc (.cells #[.int .i64 z.1.d, .int .i64 z.1.l, .int .i64 z.1.n, .int .i64 z.2] 63)) ∧ Kp S w (w3.alloc (.cells #[.int .i64 z.1.d, .int .i64 z.1.l, .int .i64 z.1.n, .int .i64 z.2] 63)) ∧ Blk w3.heap.size 63 (tmL z) (w3.alloc (.cells #[.int .i64 z.1.d, .int .i64 z.1.l, .int .i64 z.1.n, .int .i64 z.2] 63)) ∧ L.Perm (z :: L')) := ⟨F3.out.1.below (below_alloc _ _), F3.out.2.1.below (below_alloc _ _), F3.out.2.2.1.trans (Kp.of_below (below_alloc _ _) S) (fun _ _ h => h), Blk.new 63 (tmL z) w3, F3.out.2.2.2⟩
  clear F3
  generalize w3.alloc (.cells #[.int .i64 z.1.d, .int .i64 z.1.l, .int .i64 z.1.n, .int .i64 z.2] 63) = w4 at *
  generalize w3.heap.size = G at *
  clear w3
  have a0 : w4.cell? ⟨Q, 0, none⟩ = some (.int .i64 0) := F4.out.1.cell 0 _ rfl
  have a1 : w4.cell? ⟨Q, 1, none⟩ = some (.int .i64 0) := F4.out.1.cell 1 _ rfl
  have a2 : w4.cell? ⟨Q, 2, none⟩ = some (.int .i64 0) := F4.out.1.cell 2 _ rfl
  have f0 : w4.frozen? ⟨Q, 0, none⟩ = false := F4.out.1.fz 0
  have f1 : w4.frozen? ⟨Q, 1, none⟩ = false := F4.out.1.fz 1
  have f2 : w4.frozen? ⟨Q, 2, none⟩ = false := F4.out.1.fz 2
  have x0 : w4.cell? ⟨G, 0, none⟩ = some (.int .i64 z.1.d) := F4.out.2.2.2.1.cell 0 _ rfl
  have x1 : w4.cell? ⟨G, 1, none⟩ = some (.int .i64 z.1.l) := F4.out.2.2.2.1.cell 1 _ rfl
  have x2 : w4.cell? ⟨G, 2, none⟩ = some (.int .i64 z.1.n) := F4.out.2.2.2.1.cell 2 _ rfl
  have x3 : w4.cell? ⟨G, 3, none⟩ = some (.int .i64 z.2) := F4.out.2.2.2.1.cell 3 _ rfl
  have GQ : G ≠ Q := fun e => by
    have h1 : Blk G 63 (tmL z) w4 := F4.out.2.2.2.1
    have h2 : Blk Q 24 (kyL ⟨0, 0, 0⟩) w4 := F4.out.1
    unfold Blk at h1 h2
    rw [e, h2] at h1
    simp [kyL, tmL] at h1
  have FN : Hid (Blk Q 24 (kyL z.1) ((((w4.setCell ⟨Q, 0, none⟩ (.int .i64 z.1.d)).setCell ⟨Q, 1, none⟩ (.int .i64 z.1.l)).setCell ⟨Q, 2, none⟩ (.int .i64 z.1.n)).drew) ∧ QAt R S L' ((((w4.setCell ⟨Q, 0, none⟩ (.int .i64 z.1.d)).setCell ⟨Q, 1, none⟩ (.int .i64 z.1.l)).setCell ⟨Q, 2, none⟩ (.int .i64 z.1.n)).drew) ∧ Kp S w ((((w4.setCell ⟨Q, 0, none⟩ (.int .i64 z.1.d)).setCell ⟨Q, 1, none⟩ (.int .i64 z.1.l)).setCell ⟨Q, 2, none⟩ (.int .i64 z.1.n)).drew) ∧ L.Perm (z :: L')) := by
    have b3 : Blk Q 24 (kyL z.1) ((((w4.setCell ⟨Q, 0, none⟩ (.int .i64 z.1.d)).setCell ⟨Q, 1, none⟩ (.int .i64 z.1.l)).setCell ⟨Q, 2, none⟩ (.int .i64 z.1.n)).drew) := ((F4.out.1.set (i := 0) (.int .i64 z.1.d)).set (i := 1) (.int .i64 z.1.l)).set (i := 2) (.int .i64 z.1.n)
    have g3 := grownBy_drewN (grownBy_trans (grownBy_trans (setCell_grown w4 Q 0 (.int .i64 z.1.d)) (setCell_grown _ Q 1 (.int .i64 z.1.l))) (setCell_grown _ Q 2 (.int .i64 z.1.n))) 1
    have k3 : Kp (fun g => some Q = some g) w4 ((((w4.setCell ⟨Q, 0, none⟩ (.int .i64 z.1.d)).setCell ⟨Q, 1, none⟩ (.int .i64 z.1.l)).setCell ⟨Q, 2, none⟩ (.int .i64 z.1.n)).drew) := ⟨g3.os, g3.tape, g3.output, g3.size, fun i hi hm => g3.block i hi (fun e => hm e.symm)⟩
    refine ⟨b3, F4.out.2.1.kp k3 (fun g hg e => by injection e with e; have := SB.out g hg; have := HQ.out; omega), F4.out.2.2.1.trans k3 (fun g hg e => by injection e with e; have := HQ.out; omega), F4.out.2.2.2.2⟩
  clear F4
  go_region
  all_goals
    clear a0 a1 a2 f0 f1 f2 x0 x1 x2 x3
    go_wp2_with fail
    generalize (((w4.setCell ⟨Q, 0, none⟩ (.int .i64 z.1.d)).setCell ⟨Q, 1, none⟩ (.int .i64 z.1.l)).setCell ⟨Q, 2, none⟩ (.int .i64 z.1.n)).drew = w9 at *
    exact ret_blk_tmp2 rfl rfl Q _ (kyL z.1) _ rfl FN.out.1 Tryd.underlying24 rfl (infoKy _) ⟨rfl, L', FN.out.2.2.2, FN.out.2.1, FN.out.2.2.1⟩
end TQ
end Go.Proofs.YtfdehlfhnlgcjaaDoor
