/-
  Ours: the statement's step: Pending (gen_obe.py: THE SEAT's OWN NUMBERS).
-/
import Derived.Test.YteppdlaoeoeplaaObStC
namespace Go.Proofs.Yteppdlaoeoeplaa
open Go.RowKit ObM LedM PolM
set_option linter.unusedSimpArgs false

namespace ObM
def Pk.off (p : Pk) : Pk := { p with id := -5 }
/-- The first k numbers written over. -/
def mk5 (k : Nat) (ps : List Pk) : List Pk := (ps.take k).map Pk.off ++ ps.drop k
def Pk.by (p : Pk) : By := ⟨p.ba, p.bn, p.bc⟩
end ObM
theorem mk5_zero (ps : List Pk) : mk5 0 ps = ps := by simp [mk5]
theorem mk5_len (k : Nat) (ps : List Pk) : (mk5 k ps).length = ps.length := by
  simp only [mk5, List.length_append, List.length_map, List.length_take, List.length_drop]
  omega
theorem mk5_at {k : Nat} {ps : List Pk} {x : Pk} (h : ps[k]? = some x) : (mk5 k ps)[k]? = some x := by
  have hl := (List.getElem?_eq_some_iff.1 h).1
  unfold mk5
  rw [List.getElem?_append_right (by rw [List.length_map, List.length_take]; omega), List.length_map, List.length_take, List.getElem?_drop, ← h]
  congr 1
  omega
theorem mk5_step {k : Nat} {ps : List Pk} {x : Pk} (h : ps[k]? = some x) : (mk5 k ps).set k x.off = mk5 (k + 1) ps := by
  obtain ⟨hl, rfl⟩ := List.getElem?_eq_some_iff.1 h
  have e1 : ((ps.take k).map Pk.off).length = k := by rw [List.length_map, List.length_take]; omega
  unfold mk5
  rw [List.set_append_right _ _ (by omega), e1, Nat.sub_self, List.drop_eq_getElem_cons hl, List.set_cons_zero, List.take_add_one, List.getElem?_eq_getElem hl, List.map_append]
  simp
theorem mk5_all (ps : List Pk) : mk5 ps.length ps = ps.map Pk.off := by simp [mk5]
theorem pk_set {xs : List Pk} {i : Nat} {x : Pk} (h : xs[i]? = some x) : (xs.flatMap pkL).set (i * 3 + 1) (.int .i64 (-5)) = (xs.set i x.off).flatMap pkL := by
  obtain ⟨hl, e⟩ := List.getElem?_eq_some_iff.1 h
  apply List.ext_getElem?
  intro p
  rw [List.getElem?_set]
  by_cases hp : p < xs.length * 3
  · obtain ⟨q, r, hr, rfl⟩ : ∃ q r, r < 3 ∧ p = q * 3 + r := ⟨p / 3, p % 3, Nat.mod_lt _ (by decide), by omega⟩
    have hq : q < xs.length := by omega
    have h1 := fm_at pkL_len xs q r xs[q] (List.getElem?_eq_getElem hq) hr
    have hq' : q < (xs.set i x.off).length := by rw [List.length_set]; exact hq
    have h2 := fm_at pkL_len (xs.set i x.off) q r (xs.set i x.off)[q] (List.getElem?_eq_getElem hq') hr
    rw [h1, h2, List.getElem_set]
    by_cases ei : i = q
    · subst ei
      rw [if_pos rfl, e]
      by_cases er : 1 = r
      · subst er
        rw [if_pos rfl, if_pos (by rw [fm_len pkL_len]; omega)]
        rfl
      · rw [if_neg (by omega)]
        match r, hr, er with
        | 0, _, _ => rfl
        | 2, _, _ => rfl
    · rw [if_neg (by omega), if_neg ei]
  · rw [if_neg (by omega), List.getElem?_eq_none (by rw [fm_len pkL_len]; omega), List.getElem?_eq_none (by rw [fm_len pkL_len, List.length_set]; omega)]
/-- One number is written over. -/
theorem OutP.mark {base : Nat} {w : World} {g n c k : Nat} {ps : List Pk} {x : Pk} (h : OutP base w (.slice (some ⟨g, 0, none⟩) n c) (mk5 k ps)) (hx : ps[k]? = some x) :
    OutP base (w.setCell ⟨g, k * 3 + 1, none⟩ (.int .i64 (-5))) (.slice (some ⟨g, 0, none⟩) n c) (mk5 (k + 1) ps) ∧ w.grownBy (w.setCell ⟨g, k * 3 + 1, none⟩ (.int .i64 (-5))) (some g) := by
  have hr := h.row
  rw [mk5_len] at hr
  obtain rfl := own_len hr
  obtain ⟨r2, g2⟩ := World.ownsRow.stored hr (k * 3 + 1) (.int .i64 (-5))
  rw [pk_set (mk5_at hx), mk5_step hx] at r2
  have mem : ∀ p ∈ mk5 (k + 1) ps, ∃ p' ∈ mk5 k ps, p'.bv = p.bv ∧ p'.bs = p.bs := fun p hp => by
    rw [← mk5_step hx] at hp
    rcases List.mem_or_eq_of_mem_set hp with h1 | h1
    · exact ⟨p, h1, rfl, rfl⟩
    · exact ⟨x, List.mem_of_getElem? (mk5_at hx), by rw [h1]; rfl, by rw [h1]; rfl⟩
  refine ⟨⟨by rw [mk5_len]; exact r2, fun p hp => ?_, ?_⟩, g2⟩
  · obtain ⟨p', hp', e1, e2⟩ := mem p hp
    have hb := h.bd p' hp'
    rw [e1, e2] at hb
    refine RowV.kept hb g2 (fun g' hg' e => ?_)
    obtain ⟨_, _, h1⟩ := own_heap hb hg'
    obtain ⟨_, _, h2⟩ := own_heap h.row (g := g) rfl
    injection e with e
    exact ne_ty h1 h2 (by decide) e.symm
  · have hap := h.ap
    rw [← mk5_step hx]
    have hk := (List.getElem?_eq_some_iff.1 (mk5_at hx))
    rw [List.pairwise_iff_getElem] at hap ⊢
    intro i j hi hj hij g' hg'
    rw [List.length_set] at hi hj
    have a := hap i j hi hj hij g'
    have bvE : ∀ q (hq : q < ((mk5 k ps).set k x.off).length) (hq' : q < (mk5 k ps).length), ((mk5 k ps).set k x.off)[q].bv = (mk5 k ps)[q].bv := fun q hq hq' => by
      rw [List.getElem_set]
      split
      · rename_i e; subst e; rw [hk.2]; rfl
      · rfl
    rw [bvE i _ hi] at hg'
    rw [bvE j _ hj]
    exact a hg'
/-- What the list says in the end. -/
theorem OutP.kl {base : Nat} {w : World} {a : Option Addr} {n c : Nat} {ps : List Pk} (h : OutP base w (.slice a n c) (ps.map Pk.off)) : Kl base w ⟨a, n, c⟩ := by
  have hr := h.row
  rw [List.length_map] at hr
  obtain rfl := own_len hr
  refine ⟨_, hr, fun j hj => ?_⟩
  have hj' : j < ps.length := hj
  have := fm_at pkL_len (ps.map Pk.off) j 1 (ps[j].off) (by rw [List.getElem?_map, List.getElem?_eq_getElem hj']; rfl) (by decide)
  rw [this]; rfl
/-- The bodies. -/
theorem OutP.apt {base : Nat} {w : World} {v : Value} {ps : List Pk} (h : OutP base w v ps) : Apt (ps.map Pk.by) := fun i x j b hx hb hij g hg e => by
  rw [List.getElem?_map] at hx hb
  obtain ⟨p, hp, rfl⟩ := Option.map_eq_some_iff.1 hx
  obtain ⟨q, hq, rfl⟩ := Option.map_eq_some_iff.1 hb
  obtain ⟨h1, rfl⟩ := List.getElem?_eq_some_iff.1 hp
  obtain ⟨h2, rfl⟩ := List.getElem?_eq_some_iff.1 hq
  have ap := List.pairwise_iff_getElem.1 h.ap
  rcases Nat.lt_or_gt_of_ne hij with q | q
  · exact ap i j h1 h2 q g e hg
  · exact ap j i h2 h1 q g hg e
theorem OutP.own {base : Nat} {w : World} {v : Value} {ps : List Pk} (h : OutP base w v ps) : ∀ b ∈ ps.map Pk.by, ∃ vs, w.ownsRow base 5 1 b.v b.bn vs := fun b hb => by
  obtain ⟨p, hp, rfl⟩ := List.mem_map.1 hb
  have r := h.bd p hp
  unfold RowB RowV at r
  have e : p.bn = (p.bs.map bv).length := own_len r
  refine ⟨p.bs.map bv, ?_⟩
  show w.ownsRow base 5 1 p.bv p.bn _
  rw [e]
  rw [← e] at r ⊢
  exact r
end Go.Proofs.Yteppdlaoeoeplaa

namespace Go.Proofs.Yteppdlaoeoeplaa
open Go.RowKit ObM LedM PolM
set_option linter.unusedSimpArgs false

theorem infoUl : (Try.prog.info? 28).map (fun i => (i.zero, i.size, i.bytes)) = some (some (.slice none 0 0), 1, 24) := by kernel_rfl
theorem due_core : ∀ {L ys : List En} (now : Int), L.map core = ys.map core → (dueL L now).map (fun x => (x.id, x.bs)) = (dueL ys now).map (fun x => (x.id, x.bs))
  | [], [], _, _ => rfl
  | [], _ :: _, _, h => by simp at h
  | _ :: _, [], _, h => by simp at h
  | x :: L, y :: ys, now, h => by
    simp only [List.map_cons, List.cons.injEq] at h
    have ih := due_core now h.2
    have e := h.1
    simp only [core, Prod.mk.injEq] at e
    obtain ⟨e1, _, e3, e4⟩ := e
    unfold dueL at ih ⊢
    simp only [List.filter_cons, e3]
    split
    · simp only [List.map_cons, e1, e4, ih]
    · exact ih
/-- The state of Due's loop. -/
structure DS (R bm : Nat) (B T2 : Nat → Prop) (lb : List Int) (Q : Nat) (L' ys' : List En) (v2 : Value) (a2 : Option Addr) (n2 c2 : Nat) (w w3 w5 : World) (pv : Value) (ps : List Pk) (k : Nat) (wr : World) : Prop where
  x : Blk (Q + 1) 39 [.pointer (some ⟨R, 0, none⟩), v2] wr
  y : Blk (Q + 3) 39 [.pointer none, .slice none 0 0] wr
  z : Blk (Q + 4) 45 [.slice none 0 0, .slice none 0 0] wr
  p : OPost R bm B lb w L' B wr
  r : RL T2 wr a2 n2 c2 ys'
  out : OutP w3.heap.size wr pv (mk5 k ps)
  kp : Kp (fun g => pv.ownBlock = some g) w5 wr
section
variable {R bm : Nat} {B T2 : Nat → Prop} {lb : List Int} {Q : Nat} {L' ys' : List En} {v2 : Value} {a2 : Option Addr} {n2 c2 : Nat} {w w3 w5 : World} {pv : Value} {ps : List Pk} {k : Nat} {wr : World}
/-- Blocks that are new since w5 were written. -/
theorem DS.new {w6 : World} {row : Option Nat} (h : DS R bm B T2 lb Q L' ys' v2 a2 n2 c2 w w3 w5 pv ps k wr) (gr : wr.grownBy w6 row) (hf : ∀ g, row = some g → w5.heap.size ≤ g) (hQ : Q + 4 < w5.heap.size) (hT : ∀ g, T2 g → g < w5.heap.size) (hB : ∀ g, w.heap.size ≤ g → g ≠ R ∧ g ≠ bm ∧ ¬ B g) (hw : w.heap.size ≤ w5.heap.size) (hp : ∀ g, pv.ownBlock = some g → g < w5.heap.size) (hb : ∀ p ∈ ps, ∀ g, p.bv.ownBlock = some g → g < w5.heap.size) : DS R bm B T2 lb Q L' ys' v2 a2 n2 c2 w w3 w5 pv ps k w6 := by
  have K := Kp.of_grown gr
  have ne : ∀ x, x < w5.heap.size → ¬ (row = some x) := fun x hx e => by have := hf x e; omega
  refine ⟨h.x.kp K (ne _ (by omega)), h.y.kp K (ne _ (by omega)), h.z.kp K (ne _ (by omega)), h.p.farK K (fun g e => ?_), h.r.kp K (fun g q => ne g (hT g q)), h.out.far gr (fun g hg => ne g (hp g hg)) (fun p hpm g hg => ?_), h.kp.trans K (fun g hg e => absurd e (ne g hg))⟩
  · have := hf g e
    have q := hB g (by omega)
    exact ⟨by omega, q⟩
  · have : ∃ p' ∈ ps, p'.bv = p.bv := by
      unfold mk5 at hpm
      rcases List.mem_append.1 hpm with h1 | h1
      · obtain ⟨p', h2, rfl⟩ := List.mem_map.1 h1
        exact ⟨p', List.mem_of_mem_take h2, rfl⟩
      · exact ⟨p, List.mem_of_mem_drop h1, rfl⟩
    obtain ⟨p', h2, e⟩ := this
    rw [← e] at hg
    exact ne g (hb p' h2 g hg)
/-- A number is written over. -/
theorem DS.mark {g n c : Nat} {x : Pk} (h : DS R bm B T2 lb Q L' ys' v2 a2 n2 c2 w w3 w5 (.slice (some ⟨g, 0, none⟩) n c) ps k wr) (hx : ps[k]? = some x) (hg : Q + 4 < g) (hT : ¬ T2 g) (hB : g ≠ R ∧ g ≠ bm ∧ ¬ B g) (hw : w.heap.size ≤ g) : DS R bm B T2 lb Q L' ys' v2 a2 n2 c2 w w3 w5 (.slice (some ⟨g, 0, none⟩) n c) ps (k + 1) (wr.setCell ⟨g, k * 3 + 1, none⟩ (.int .i64 (-5))) := by
  obtain ⟨o2, gr⟩ := h.out.mark hx
  have K := Kp.of_grown gr
  have ne : ∀ x, x ≠ g → ¬ (some g = some x) := fun x hx e => by injection e with e; exact hx e.symm
  refine ⟨h.x.kp K (ne _ (by omega)), h.y.kp K (ne _ (by omega)), h.z.kp K (ne _ (by omega)), h.p.farK K (fun q e => ?_), h.r.kp K (fun q hq => ne q (fun e => hT (e ▸ hq))), o2, h.kp.trans K (fun q _ e => e)⟩
  injection e with e
  subst e
  exact ⟨hw, hB⟩
end
end Go.Proofs.Yteppdlaoeoeplaa

namespace Go.Proofs.Yteppdlaoeoeplaa
open Go.RowKit ObM LedM PolM
set_option linter.unusedSimpArgs false

/-- What was handed out, behind its holder's marks. -/
structure HOut (Z : Nat) (m : Int) (w : World) (bl : List By) (v : Value) (b : By) : Prop where
  rdv : Rd w v (bl.map By.v)
  vz : ∀ g, v.ownBlock = some g → Z ≤ g
  apt : Apt bl
  mks : ∀ (q : Nat) (x : By), bl[q]? = some x → Mk w ⟨x, mkB m q⟩
  bz : ∀ (q : Nat) (x : By), bl[q]? = some x → ∀ g, x.v.ownBlock = some g → Z ≤ g ∧ g < w.heap.size
  kl : Kl Z w b
/-- What step answers to Due. -/
def StDue (R bm : Nat) (B T : Nat → Prop) (lb : List Int) (bo : Int → Int) (now m : Int) (w : World) (L ys : List En) (e : Ending) (w' : World) : Prop :=
  ∃ a n c T' Z va vm vc pa pn pc bl, e = .returned (.tuple #[.agg #[.pointer (some ⟨R, 0, none⟩), .slice a n c], .bool true, .agg #[.slice va vm vc, .slice pa pn pc]]) ∧ OPost R bm B lb w (after (boL lb []) now L) B w' ∧ RL T' w' a n c (after bo now ys) ∧ (∀ g, T' g → T g ∨ w.heap.size ≤ g) ∧ w.heap.size ≤ Z ∧ (∀ g, T' g → g < Z) ∧ HOut Z m w' bl (.slice va vm vc) ⟨pa, pn, pc⟩ ∧ bl.length ≤ L.length ∧ pn ≤ L.length
/-- What is left of the state. -/
structure DSZ (R bm : Nat) (B T2 : Nat → Prop) (lb : List Int) (Q : Nat) (L' ys' : List En) (a2 : Option Addr) (n2 c2 : Nat) (w wr : World) : Prop where
  x : Blk (Q + 1) 39 [.pointer (some ⟨R, 0, none⟩), .slice a2 n2 c2] wr
  y : Blk (Q + 3) 39 [.pointer none, .slice none 0 0] wr
  z : Blk (Q + 4) 45 [.slice none 0 0, .slice none 0 0] wr
  p : OPost R bm B lb w L' B wr
  r : RL T2 wr a2 n2 c2 ys'
set_option maxRecDepth 40000 in
set_option maxHeartbeats 8000000 in
theorem step_due (R bm : Nat) (B T : Nat → Prop) (lb l : List Int) (s : Value) (L ys : List En) (a : Option Addr) (n c : Nat) (o : Oc) (xa : Option Addr) (xc : Nat) (m : Int) (w : World) (h : BoxV R bm B lb L w) (hr : RL T w a n c ys) (k3 : o.kd = 3) (hs : List Int) (hl : ys.length ≤ 1000000000) (hl2 : L.length ≤ 1000000000) (hT : ∀ g, T g → g ≠ bm) (ok : OcOk o) (hp : l.length = 17) (hrs : Rd w s (bkL hs)) (hbh : hs.length ≤ 1152921504606846976) (ha : ∀ e ∈ L, 0 ≤ e.att ∧ e.att ≤ 1000000000000000) (ha2 : ∀ e ∈ ys, 0 ≤ e.att ∧ e.att ≤ 1000000000000000) (hal : L.map core = ys.map core) (hbs : ∀ e ∈ L, e.bs.length ≤ 1000000000) (hm : 0 ≤ m ∧ m < 256) :
    Calls Try.prog 12 #[.agg (polL l s).toArray, .agg #[.pointer (some ⟨R, 0, none⟩), .slice a n c], .agg (ocL o xa xc).toArray, .int .u8 m] w (StDue R bm B T lb (boL l hs) o.now m w L ys) := by
  obtain ⟨i0, hi, hz0, hz1, hz2⟩ := info_parts infoUl
  have HT : Hid (∀ g, T g → g ≠ bm) := hT
  have HM : Hid (0 ≤ m ∧ m < 256) := hm
  have HBM : Hid (bm < w.heap.size) := h.mp.lt
  have FAR : Hid (∀ G, w.heap.size ≤ G → G ≠ R ∧ G ≠ bm ∧ ¬ B G) := fun G hG => ⟨by have := h.blk.lt; omega, by have := h.mp.lt; omega, fun q => by have := (h.b G q).1; omega⟩
  have SZP : Hid ((Try.prog.info? 24).map (·.size) = some (polL l s).length) := by show _ = _; rw [polL_len hp]; exact sizeP
  have RDUE : Hid (∀ w', Below w.heap.size w w' → Calls Try.prog 22 #[.agg (polL l s).toArray, .agg #[.slice a n c], .int .i64 o.now] w' (RDue T l hs ys o.now w')) := fun w' b => rdue_at T l hs s ys a n c o.now w' (hr.below b) hl hp (hrs.later b) hbh ok.now ha2
  have DUE : Hid (∀ w', BoxV R bm B lb L w' → Calls Try.prog 23 #[.pointer (some ⟨R, 0, none⟩), .int .i64 o.now] w' (DueAns R bm B lb L o.now w')) := fun w' q => due_at R bm B lb L o.now w' q hl2 ok.now ha
  have HC : Hid ((dueL L o.now).map (fun x => (x.id, x.bs)) = (dueL ys o.now).map (fun x => (x.id, x.bs))) := due_core o.now hal
  have HLB : Hid ((∀ p ∈ (dueL L o.now).map (fun x => (x.id, x.bs)), p.2.length ≤ 1000000000) ∧ (dueL L o.now).length ≤ 1000000000) := ⟨fun p hp => by
    obtain ⟨x, hx, rfl⟩ := List.mem_map.1 hp
    exact hbs x (List.mem_filter.1 hx).1, Nat.le_trans (List.length_filter_le ..) hl2⟩
  have HLL : Hid ((dueL L o.now).length ≤ L.length) := List.length_filter_le ..
  clear hl hl2 hT ok hp hrs hbh ha ha2 hal hbs hm
  have W0 : Hid (BoxV R bm B lb L w ∧ RL T w a n c ys) := ⟨h, hr⟩
  have e1 : (o.kd == 1) = false := by rw [k3]; rfl
  have e2 : (o.kd == 2) = false := by rw [k3]; rfl
  have e3 : (o.kd == 3) = true := by rw [k3]; rfl
  clear k3
  obtain ⟨Q, hQ⟩ : ∃ Q, w.heap.size = Q := ⟨_, rfl⟩
  have HQ : Hid (w.heap.size = Q) := hQ
  obtain ⟨w0, hw0⟩ : ∃ w0, w.alloc (.cells (polL l s).toArray 24) = w0 := ⟨_, rfl⟩
  obtain ⟨w1, hw1⟩ : ∃ w1, ((((w0.alloc (.cells #[.pointer (some ⟨R, 0, none⟩), .slice a n c] 39)).alloc (.cells (ocL o xa xc).toArray 30)).alloc (.cells #[.pointer none, .slice none 0 0] 39)).alloc (.cells #[.slice none 0 0, .slice none 0 0] 45)) = w1 := ⟨_, rfl⟩
  have eQ : w0.heap.size = Q + 1 := by rw [← hw0, ← hQ]; simp
  have S1 : Hid (SB Q l s R (.slice a n c) o xa xc w1 ∧ Below w.heap.size w w1) := by
    rw [← hw1, ← hw0, ← hQ]
    exact SB.new w
  clear h hr
  go_enter Try.func12, Try.ntmps12
  go_upto_region 1 with fail
  clear hQ hw1 hw0 eQ
  have c0 := S1.out.1.o.cell 0 _ rfl
  have lt2 := S1.out.1.o.lt
  have o3 := S1.out.1.o.cell 3 _ rfl
  go_upto_region 24 with fail
  go_wp2_with (first
    | (refine step_load rfl 24 _ rfl Q 0 rfl (polL l s) _ (Blk.all S1.out.1.p) Try.underlying24 rfl SZP.out ?_)
    | (refine step_load rfl 37 _ rfl (Q + 1) 1 rfl [.slice a n c] _ (S1.out.1.x.range 1 1) Try.underlying37 rfl sizeRB ?_))
  refine (RDUE.out _ S1.out.2).mono ?_
  rintro e w2 ⟨a2, n2, c2, b2, q2, d2, ps2, rfl, ⟨T2, r2, t2, bel2⟩, out2, eq2⟩
  have S2 : Hid (SB Q l s R (.slice a n c) o xa xc w2 ∧ OPost R bm B lb w L B w2 ∧ RL T2 w2 a2 n2 c2 (after (boL l hs) o.now ys) ∧ (∀ g, T2 g → T g ∨ w1.heap.size ≤ g) ∧ OutP w1.heap.size w2 (.slice b2 q2 d2) ps2) := ⟨S1.out.1.kp (Kp.of_below bel2 (fun _ => False)) (fun _ _ _ q => q), OPost.refl W0.out.1 (below_trans S1.out.2 bel2), r2, t2, out2⟩
  have EQ2 : Hid (ps2.map (fun p => (p.id, p.bs)) = (dueL ys o.now).map (fun x => (x.id, x.bs))) := eq2
  have Q1 : Hid (Q + 4 < w1.heap.size ∧ w.heap.size ≤ w1.heap.size ∧ w1.heap.size ≤ w2.heap.size) := ⟨S1.out.1.z.lt, S1.out.2.size, bel2.size⟩
  clear r2 t2 bel2 out2 eq2 o3 c0 lt2 RDUE
  have lt1 := S2.out.1.x.lt
  go_upto_region 25 with ((with_reducible refine at_store ?_); refine step_store rfl 37 _ _ rfl (Q + 1) 1 39 [.pointer (some ⟨R, 0, none⟩), .slice a n c] [.slice a2 n2 c2] rfl rfl S2.out.1.x (show 1 + 1 ≤ 2 by decide) sizeRB (oneS _ _ _) ?_; intro w3 nb3 g3)
  have F2 : Hid (∀ g, T2 g → g ≠ Q + 1 ∧ g ≠ Q + 3 ∧ g ≠ Q + 4 ∧ g ≠ bm ∧ g < w3.heap.size) := fun g q => by
    have l3 := Nat.lt_of_lt_of_le (S2.out.2.2.1.lt g q) g3.size
    rcases S2.out.2.2.2.1 _ q with h | h
    · have := W0.out.2.lt _ h; have := HQ.out; have := HT.out g h; omega
    · have := Q1.out; have := HBM.out; omega
  have S3 : Hid (Blk (Q + 1) 39 [.pointer (some ⟨R, 0, none⟩), .slice a2 n2 c2] w3 ∧ Blk (Q + 3) 39 [.pointer none, .slice none 0 0] w3 ∧ Blk (Q + 4) 45 [.slice none 0 0, .slice none 0 0] w3 ∧ Blk (Q + 2) 30 (ocL o xa xc) w3 ∧ OPost R bm B lb w L B w3 ∧ RL T2 w3 a2 n2 c2 (after (boL l hs) o.now ys) ∧ OutP w1.heap.size w3 (.slice b2 q2 d2) ps2) :=
    ⟨nb3, S2.out.1.y.grown g3 (fun q => by injection q with q; omega), S2.out.1.z.grown g3 (fun q => by injection q with q; omega), S2.out.1.o.grown g3 (fun q => by injection q with q; omega), OPost.far S2.out.2.1 g3 (by have := HQ.out; omega) (FAR.out (Q + 1) (by have := HQ.out; omega)).1 (FAR.out (Q + 1) (by have := HQ.out; omega)).2.1 (FAR.out (Q + 1) (by have := HQ.out; omega)).2.2, S2.out.2.2.1.kp (Kp.of_grown g3) (fun g q e => by injection e with e; exact (F2.out g q).1 e.symm), S2.out.2.2.2.2.far g3 (fun q hq e => by injection e with e; have := (own_heap S2.out.2.2.2.2.row hq).1; have := Q1.out; omega) (fun p hp q hq e => by injection e with e; have := (own_heap (S2.out.2.2.2.2.bd p hp) hq).1; have := Q1.out; omega)⟩
  have TT : Hid (∀ g, T2 g → T g ∨ w.heap.size ≤ g) := fun g q => (S2.out.2.2.2.1 g q).imp (fun q => q) (fun q => Nat.le_trans Q1.out.2.1 q)
  have Q3 : Hid (Q + 4 < w3.heap.size ∧ w.heap.size ≤ w3.heap.size ∧ w1.heap.size ≤ w3.heap.size) := by have := Q1.out; have := g3.size; exact ⟨by omega, by omega, by omega⟩
  clear nb3 g3 lt1 S2
  have x0 := S3.out.1.cell 0 _ rfl
  have lt1 := S3.out.1.lt
  have o3 := S3.out.2.2.2.1.cell 3 _ rfl
  have lt2 := S3.out.2.2.2.1.lt
  go_wp2_with fail
  refine (DUE.out _ S3.out.2.2.2.2.1.box).mono ?_
  rintro e w4 ⟨pa, pn, pc, ps, rfl, out4, eq4, p4⟩
  have NB : Hid (∀ g, w.heap.size ≤ g → ¬ g = bm) := fun g q e => by have := HBM.out; omega
  have LP : Hid ((∀ p ∈ ps, p.bs.length ≤ 1000000000) ∧ (∀ p ∈ ps2, p.bs.length ≤ 1000000000) ∧ ps.length ≤ 1000000000 ∧ ps.map coreP = ps2.map coreP) := by
    refine ⟨fun p hp => ?_, fun p hp => ?_, ?_, (eq4.trans HC.out).trans EQ2.out.symm⟩
    · have := HLB.out.1 (p.id, p.bs) (by rw [← eq4]; exact List.mem_map.2 ⟨p, hp, rfl⟩)
      exact this
    · have := HLB.out.1 (p.id, p.bs) (by rw [HC.out, ← EQ2.out]; exact List.mem_map.2 ⟨p, hp, rfl⟩)
      exact this
    · have := congrArg List.length eq4
      rw [List.length_map, List.length_map] at this
      rw [this]; exact HLB.out.2
  have PKY : Hid (Calls Try.prog 24 #[.slice pa pn pc, .slice b2 q2 d2] w4 fun e w' => e = .returned (.bool true) ∧ Below w4.heap.size w4 w') := packets_yes ps ps2 _ _ w4 (by have := LP.out.2.2.1; omega) (OutP.rdl out4 (fun p hp => by have := LP.out.1 p hp; omega)) (OutP.rdl (S3.out.2.2.2.2.2.2.kp p4.k (fun g q => NB.out g (Nat.le_trans Q1.out.2.1 q))) (fun p hp => by have := LP.out.2.1 p hp; omega)) LP.out.2.2.2
  obtain rfl : pn = ps.length := own_len out4.row
  obtain ⟨N, hN⟩ : ∃ N, ps.length = N := ⟨_, rfl⟩
  have HN : Hid (ps.length = N) := hN
  have hN9 : N ≤ 1000000000 := by rw [← hN]; exact LP.out.2.2.1
  have HNL : Hid (N ≤ L.length) := by
    show _ ≤ _
    have e := congrArg List.length eq4
    rw [List.length_map, List.length_map] at e
    rw [← hN, e]; exact HLL.out
  rw [hN] at out4 PKY ⊢
  have S4 : Hid (Blk (Q + 1) 39 [.pointer (some ⟨R, 0, none⟩), .slice a2 n2 c2] w4 ∧ Blk (Q + 3) 39 [.pointer none, .slice none 0 0] w4 ∧ Blk (Q + 4) 45 [.slice none 0 0, .slice none 0 0] w4 ∧ OPost R bm B lb w (after (boL lb []) o.now L) B w4 ∧ RL T2 w4 a2 n2 c2 (after (boL l hs) o.now ys) ∧ OutP w3.heap.size w4 (.slice pa N pc) ps) :=
    ⟨S3.out.1.kp p4.k (NB.out _ (by have := HQ.out; omega)), S3.out.2.1.kp p4.k (NB.out _ (by have := HQ.out; omega)), S3.out.2.2.1.kp p4.k (NB.out _ (by have := HQ.out; omega)), S3.out.2.2.2.2.1.trans p4, S3.out.2.2.2.2.2.1.kp p4.k (fun g q => (F2.out g q).2.2.2.1), out4⟩
  have Q4 : Hid (w3.heap.size ≤ w4.heap.size) := p4.k.size
  clear out4 eq4 p4 x0 lt1 o3 lt2 S3 DUE hN
  go_wp2_with fail
  refine PKY.out.mono ?_
  rintro e w5 ⟨rfl, b5⟩
  have D1 : Hid (DS R bm B T2 lb Q (after (boL lb []) o.now L) (after (boL l hs) o.now ys) (.slice a2 n2 c2) a2 n2 c2 w w3 w5 (.slice pa N pc) ps 0 w5 ∧ w5.ownsRow w5.heap.size 28 1 (.slice none 0 0) 0 ((ps.take 0).map Pk.bv)) := by
    have K := Kp.of_below b5 (fun _ => False)
    refine ⟨⟨S4.out.1.below b5, S4.out.2.1.below b5, S4.out.2.2.1.below b5, S4.out.2.2.2.1.trans (OPost.refl S4.out.2.2.2.1.box b5), S4.out.2.2.2.2.1.below b5, by rw [mk5_zero]; exact S4.out.2.2.2.2.2.below b5, Kp.refl _ _⟩, by simpa using World.ownsRow_nil w5 w5.heap.size 28 1⟩
  have Q5 : Hid (Q + 4 < w5.heap.size ∧ w.heap.size ≤ w5.heap.size ∧ w3.heap.size ≤ w5.heap.size ∧ (∀ g, T2 g → g < w5.heap.size) ∧ (∀ g, (Value.slice pa N pc).ownBlock = some g → g < w5.heap.size) ∧ ∀ p ∈ ps, ∀ g, p.bv.ownBlock = some g → g < w5.heap.size) := by
    have h1 := Q3.out
    have h2 := Q4.out
    have h3 := b5.size
    refine ⟨by omega, by omega, by omega, fun g q => by have := (F2.out g q).2.2.2.2; omega, fun g hg => ?_, fun p hp g hg => ?_⟩
    · have := own_lt S4.out.2.2.2.2.2.row hg; omega
    · have := own_lt (S4.out.2.2.2.2.2.bd p hp) hg; omega
  clear b5 S4 PKY
  go_wp2_with fail
  go_loopw [11, 23] (fun v vk wr => ∃ k : Nat, ∃ va vm vc, vk = .int .i64 (k : Int) ∧ k ≤ N ∧ v = .slice va vm vc ∧ Hid (DS R bm B T2 lb Q (after (boL lb []) o.now L) (after (boL l hs) o.now ys) (.slice a2 n2 c2) a2 n2 c2 w w3 w5 (.slice pa N pc) ps k wr ∧ wr.ownsRow w5.heap.size 28 1 (.slice va vm vc) k ((ps.take k).map Pk.bv))) (fun _ vk _ => N - (intOf vk).toNat)
  case atStart => exact ⟨0, none, 0, 0, rfl, by omega, rfl, D1⟩
  case round =>
    clear D1
    obtain ⟨k, va, vm, vc, rfl, hk, rfl, D⟩ := hrel
    by_cases hlt : (k : Int) < (N : Int)
    · obtain ⟨x, hx⟩ : ∃ x, ps[k]? = some x := ⟨ps[k]'(by rw [HN.out]; omega), List.getElem?_eq_getElem _⟩
      have row := D.out.1.out.row
      rw [mk5_len, HN.out] at row
      rcases row.2 with ⟨_, h0⟩ | ⟨gl, cap, cur, h1, hbg, _⟩
      · omega
      injection h1 with h1 _ h1c
      subst h1
      subst h1c
      have cell : ∀ wz, DS R bm B T2 lb Q (after (boL lb []) o.now L) (after (boL l hs) o.now ys) (.slice a2 n2 c2) a2 n2 c2 w w3 w5 (.slice (some ⟨gl, 0, none⟩) N pc) ps k wz → ∀ j u, (pkL x)[j]? = some u → wz.cell? ⟨gl, k * 3 + j, none⟩ = some u := fun wz q j u hu => by
        have rz := q.out.row
        have nz := own_len rz
        exact (Row3.cell (o := 0) pkL_len rz (mk5_at hx) j u hu).2
      have frz : ∀ wz, DS R bm B T2 lb Q (after (boL lb []) o.now L) (after (boL l hs) o.now ys) (.slice a2 n2 c2) a2 n2 c2 w w3 w5 (.slice (some ⟨gl, 0, none⟩) N pc) ps k wz → ∀ j, wz.frozen? ⟨gl, j, none⟩ = false := fun wz q j => by
        obtain ⟨_, cur, hh⟩ := own_heap q.out.row (g := gl) rfl
        simp [World.frozen?, hh]
      have c2' := cell wr D.out.1 2 _ rfl
      have HC2 : Hid (∀ wz, DS R bm B T2 lb Q (after (boL lb []) o.now L) (after (boL l hs) o.now ys) (.slice a2 n2 c2) a2 n2 c2 w w3 w5 (.slice (some ⟨gl, 0, none⟩) N pc) ps k wz → wz.cell? ⟨gl, k * 3 + 1, none⟩ = some (.int .i64 x.id) ∧ wz.frozen? ⟨gl, k * 3 + 1, none⟩ = false ∧ DS R bm B T2 lb Q (after (boL lb []) o.now L) (after (boL l hs) o.now ys) (.slice a2 n2 c2) a2 n2 c2 w w3 w5 (.slice (some ⟨gl, 0, none⟩) N pc) ps (k + 1) (wz.setCell ⟨gl, k * 3 + 1, none⟩ (.int .i64 (-5)))) := fun wz q => ⟨cell wz q 1 _ rfl, frz wz q _, q.mark hx (by have := Q3.out; omega) (fun q => by have := (F2.out gl q).2.2.2.2; omega) (FAR.out gl (by have := Q3.out; omega)) (by have := Q3.out; omega)⟩
      have SN : Hid ((ps.take (k + 1)).map Pk.bv = (ps.take k).map Pk.bv ++ [.slice x.ba x.bn x.bc]) := by show _ = _; rw [List.take_add_one, hx, List.map_append]; rfl
      have l1 : k + 1 ≤ maxLen := by unfold maxLen; omega
      have l2 : (k + 1) * 24 ≤ 140737488355328 := by omega
      have hsz : w5.heap.size ≤ wr.heap.size := D.out.1.kp.size
      have on1 : ∀ u ∈ [Value.slice x.ba x.bn x.bc], u.oneCell' = true := by intro u hu; simp at hu; subst hu; rfl
      clear hx cell frz row hbg
      go_upto_region 31 with (at_builtin; refine wpList_pushR rfl (.tmp 143) (.tmp 149) 42 rfl 28 i0 (.slice none 0 0) 1 24 Try.underlying42 hi hz0 hz1 hz2 rfl (by decide) w5.heap.size (.slice va vm vc) k ((ps.take k).map Pk.bv) [.slice x.ba x.bn x.bc] rfl on1 rfl D.out.2 hsz rfl l1 l2 ?_; intro a6 n6 c6 w6 r6 g6 x6)
      have D6 := D.out.1.new g6 (fun g e => (own_heap D.out.2 e).1) Q5.out.1 Q5.out.2.2.2.1 FAR.out Q5.out.2.1 Q5.out.2.2.2.2.1 Q5.out.2.2.2.2.2
      obtain ⟨y1, y2, y3⟩ := HC2.out w6 D6
      have D7 : Hid (DS R bm B T2 lb Q (after (boL lb []) o.now L) (after (boL l hs) o.now ys) (.slice a2 n2 c2) a2 n2 c2 w w3 w5 (.slice (some ⟨gl, 0, none⟩) N pc) ps (k + 1) (w6.setCell ⟨gl, k * 3 + 1, none⟩ (.int .i64 (-5))) ∧ (w6.setCell ⟨gl, k * 3 + 1, none⟩ (.int .i64 (-5))).ownsRow w5.heap.size 28 1 (.slice a6 n6 c6) (k + 1) ((ps.take (k + 1)).map Pk.bv)) := by
        refine ⟨y3, ?_⟩
        rw [SN.out]
        refine own_grown r6 (setCell_grown w6 gl (k * 3 + 1) _) (fun g hg e => ?_)
        injection e with e
        have := (own_heap r6 hg).1
        have := Q5.out.2.2.2.2.1 gl rfl
        omega
      clear r6 g6 x6 D6 y3 D HC2 c2' on1
      go_wp2_with fail
      go_roundw
      case rel => exact ⟨k + 1, a6, n6, c6, by go_num, by omega, rfl, D7⟩
      case measure => simp [intOf]; omega
    · obtain rfl : N = k := by omega
      have OE : OutP w3.heap.size wr (.slice pa N pc) (ps.map Pk.off) := by
        have := D.out.1.out
        rwa [show mk5 N ps = ps.map Pk.off by rw [← HN.out]; exact mk5_all ps] at this
      obtain ⟨bl, hbl⟩ : ∃ bl, (ps.map Pk.off).map Pk.by = bl := ⟨_, rfl⟩
      have ebv : bl.map By.v = (ps.take N).map Pk.bv := by
        rw [← hbl, List.map_map, List.map_map, List.take_of_length_le (by rw [HN.out]; exact Nat.le_refl _)]
        rfl
      have ap := OE.apt
      have ow := OE.own
      rw [hbl] at ap ow
      have lbl : bl.length = N := by rw [← hbl, List.length_map, List.length_map, HN.out]
      have BB : ∀ b ∈ bl, b.bn ≤ 1000000000 ∧ ∀ g, b.v.ownBlock = some g → w3.heap.size ≤ g ∧ g < w5.heap.size := fun b hb => by
        rw [← hbl] at hb
        obtain ⟨p0, hp0, rfl⟩ := List.mem_map.1 hb
        obtain ⟨p, hp, rfl⟩ := List.mem_map.1 hp0
        have rb := OE.bd _ hp0
        refine ⟨?_, fun g hg => ⟨(own_heap rb hg).1, Q5.out.2.2.2.2.2 p hp g hg⟩⟩
        unfold RowB RowV at rb
        have e : p.bn = (p.bs.map bv).length := own_len rb
        show p.bn ≤ _
        rw [e, List.length_map]
        exact LP.out.1 p hp
      have VB : ∀ g, (Value.slice va vm vc).ownBlock = some g → w5.heap.size ≤ g := fun g hg => (own_heap D.out.2 hg).1
      have rdb : Rd wr (.slice va vm vc) (bl.map By.v) := by
        have r := D.out.2
        rw [← ebv] at r
        have hlen := r.1
        rw [Nat.mul_one] at hlen
        have : RowV 28 w5.heap.size wr (.slice va vm vc) (bl.map By.v) := by unfold RowV; rw [hlen]; exact r
        exact RowV.rd this
      have hB3 : w3.heap.size ≤ wr.heap.size := Nat.le_trans Q5.out.2.2.1 D.out.1.kp.size
      have APT : Hid (∀ w', Below wr.heap.size wr w' → Calls Try.prog 25 #[.slice va vm vc, .int .u8 m] w' fun e w'' => e = .returned (.bool true) ∧ AQ w3.heap.size bl m w' bl.length w'') := fun w' b => apart_at bl m va vm vc w3.heap.size w' (rdb.later b) (Nat.le_trans hB3 b.size) (fun x hx => ⟨by
        obtain ⟨vs, r⟩ := ow x hx
        exact ⟨vs, own_kp r (Kp.of_below b (fun _ => False)) (fun _ _ q => q)⟩, (BB x hx).1⟩) ap (fun x hx g hg e => by have := (BB x hx).2 g hg; have := VB g e; omega) (by omega) HM.out
      have FIN7 : Hid (∀ w7, AQ w3.heap.size bl m wr bl.length w7 → DSZ R bm B T2 lb Q (after (boL lb []) o.now L) (after (boL l hs) o.now ys) a2 n2 c2 w w7 ∧ AQ w3.heap.size bl m wr bl.length w7) := fun w7 q => by
        have far : ∀ g, (∃ b ∈ bl, b.v.ownBlock = some g) → w3.heap.size ≤ g := fun g ⟨b, hb, e⟩ => ((BB b hb).2 g e).1
        have nq : ∀ x, x < w3.heap.size → ¬ (∃ b ∈ bl, b.v.ownBlock = some x) := fun x hx e => by have := far x e; omega
        have := Q3.out
        exact ⟨⟨D.out.1.x.kp q.kp (nq _ (by omega)), D.out.1.y.kp q.kp (nq _ (by omega)), D.out.1.z.kp q.kp (nq _ (by omega)), D.out.1.p.farK q.kp (fun g e => ⟨by have := far g e; omega, FAR.out g (by have := far g e; omega)⟩), D.out.1.r.kp q.kp (fun g hg => nq g (F2.out g hg).2.2.2.2)⟩, q⟩
      have FIN9 : Hid (∀ w7 w8 w9, (DSZ R bm B T2 lb Q (after (boL lb []) o.now L) (after (boL l hs) o.now ys) a2 n2 c2 w w7 ∧ AQ w3.heap.size bl m wr bl.length w7) → w7.grownBy w8 (some (Q + 3)) → w8.grownBy w9 (some (Q + 4)) → StDue R bm B T lb (boL l hs) o.now m w L ys (.returned (.tuple #[.agg #[.pointer (some ⟨R, 0, none⟩), .slice a2 n2 c2], .bool true, .agg #[.slice va vm vc, .slice pa N pc]])) w9) := fun w7 w8 w9 q g8 g9 => by
        have K8 := Kp.of_grown g8
        have K9 := Kp.of_grown g9
        have n8 : ∀ x, w3.heap.size ≤ x → ¬ (some (Q + 3) = some x) := fun x hx e => by injection e with e; have := Q3.out; omega
        have n9 : ∀ x, w3.heap.size ≤ x → ¬ (some (Q + 4) = some x) := fun x hx e => by injection e with e; have := Q3.out; omega
        have hq := HQ.out
        have kl7 : Kl w3.heap.size w7 ⟨pa, N, pc⟩ := (OE.kl).kp q.2.kp (fun g hg ⟨b, hb, e⟩ => by
          obtain ⟨_, _, h1⟩ := own_heap OE.row hg
          obtain ⟨vs, r⟩ := ow b hb
          obtain ⟨_, _, h2⟩ := own_heap r e
          exact ne_ty h1 h2 (by decide) rfl)
        unfold StDue
        refine ⟨a2, n2, c2, T2, w3.heap.size, va, vm, vc, pa, N, pc, bl, rfl, (q.1.p.farK K8 (fun g e => ?_)).farK K9 (fun g e => ?_), (q.1.r.kp K8 (fun g hg e => by injection e with e; exact (F2.out g hg).2.1 e.symm)).kp K9 (fun g hg e => by injection e with e; exact (F2.out g hg).2.2.1 e.symm), TT.out, Q3.out.2.1, fun g hg => (F2.out g hg).2.2.2.2, ⟨?_, fun g hg => ?_, ap, fun p x hx => ⟨?_, ?_⟩, fun p x hx g hg => ⟨((BB x (List.mem_of_getElem? hx)).2 g hg).1, by have h1 := ((BB x (List.mem_of_getElem? hx)).2 g hg).2; have h2 := D.out.1.kp.size; have h3 := q.2.kp.size; have h4 := g8.size; have h5 := g9.size; omega⟩, (kl7.kp K8 (fun g hg => n8 g (own_heap OE.row hg).1)).kp K9 (fun g hg => n9 g (own_heap OE.row hg).1)⟩, by rw [lbl]; exact HNL.out, HNL.out⟩
        · injection e with e; subst e; exact ⟨by omega, FAR.out _ (by omega)⟩
        · injection e with e; subst e; exact ⟨by omega, FAR.out _ (by omega)⟩
        · exact ((rdb.kp q.2.kp (fun g hg ⟨b, hb, e⟩ => by have := (BB b hb).2 g e; have := VB g hg; omega)).kp K8 (fun g hg => n8 g (by have := VB g hg; have := Q5.out; omega))).kp K9 (fun g hg => n9 g (by have := VB g hg; have := Q5.out; omega))
        · have := VB g hg; have := Q5.out; omega
        · have := (BB x (List.mem_of_getElem? hx)).1; show x.bn ≤ _; omega
        · exact ((q.2.rd p x hx).kp K8 (fun g hg => n8 g ((BB x (List.mem_of_getElem? hx)).2 g hg).1)).kp K9 (fun g hg => n9 g ((BB x (List.mem_of_getElem? hx)).2 g hg).1)
      clear OE ebv ap ow lbl BB VB rdb hB3 hbl LP
      generalize StDue R bm B T lb (boL l hs) o.now m w L ys = PP at *
      go_upto_region 32 with fail
      refine wp_region_held_drew (S := fun w' => Blk (Q + 1) 39 [.pointer (some ⟨R, 0, none⟩), .slice a2 n2 c2] w') (by kernel_rfl) (D.out.1.x) (fun hH => ?_)
      refine wpAnyH_take (i := 0) (oi := { dst := some 155, op := Op.load 39 (Operand.tmp 5), type := 39, pos := "law.go:188", after := #[], guard := none }) (v := .agg ([.pointer (some ⟨R, 0, none⟩), .slice a2 n2 c2] : List Value).toArray) rfl (by kernel_rfl) (by kernel_rfl) (by kernel_rfl) (fun _ _ _ h => h) (yieldsIf_load_mid (by rfl) _ _ rfl _ 0 rfl ([.pointer (some ⟨R, 0, none⟩), .slice a2 n2 c2]) _ (fun w' h => h.all) Try.underlying39 rfl sizePr) hH ?_
      try simp only [Act.put, List.setIfInBounds_toArray, List.set_cons_zero, List.set_cons_succ]
      refine wpAnyH_take (i := 1) (oi := { dst := some 156, op := Op.move (Operand.tmp 22), type := 4, pos := "law.go:188", after := #[], guard := none }) (v := .bool true) rfl (by kernel_rfl) (by kernel_rfl) (by kernel_rfl) (fun _ _ _ h => h) (Or.inl ⟨by rfl, fun w' hs => by go_simp⟩) hH ?_
      try simp only [Act.put, List.setIfInBounds_toArray, List.set_cons_zero, List.set_cons_succ]
      refine wpAnyH_take (i := 2) (oi := { dst := some 157, op := Op.move (Operand.tmp 156), type := 4, pos := "law.go:188", after := #[{ on := 1, ground := Ground.data }], guard := none }) (v := .bool true) rfl (by kernel_rfl) (by kernel_rfl) (by kernel_rfl) (fun _ _ _ h => h) (Or.inl ⟨by rfl, fun w' hs => by go_simp⟩) hH ?_
      try simp only [Act.put, List.setIfInBounds_toArray, List.set_cons_zero, List.set_cons_succ]
      refine wpAnyH_take (i := 3) (oi := { dst := some 158, op := Op.move (Operand.tmp 11), type := 42, pos := "law.go:188", after := #[{ on := 2, ground := Ground.guard }], guard := some (2, true) }) (v := .slice va vm vc) rfl (by kernel_rfl) (by kernel_rfl) (by kernel_rfl) (fun _ _ _ h => h) (Or.inl ⟨by rfl, fun w' hs => by go_simp⟩) hH ?_
      try simp only [Act.put, List.setIfInBounds_toArray, List.set_cons_zero, List.set_cons_succ]
      refine wpAnyH_take (i := 4) (oi := { dst := some 159, op := Op.move (Operand.tmp 3), type := 5, pos := "law.go:188", after := #[{ on := 2, ground := Ground.guard }], guard := some (2, true) }) (v := .int .u8 m) rfl (by kernel_rfl) (by kernel_rfl) (by kernel_rfl) (fun _ _ _ h => h) (Or.inl ⟨by rfl, fun w' hs => by go_simp⟩) hH ?_
      try simp only [Act.put, List.setIfInBounds_toArray, List.set_cons_zero, List.set_cons_succ]
      refine wpAnyH_take (i := 7) (oi := { dst := some 162, op := Op.move (Operand.tmp 11), type := 42, pos := "law.go:188", after := #[{ on := 11, ground := Ground.gcOnly Departure.lateStores }], guard := none }) (v := .slice va vm vc) rfl (by kernel_rfl) (by kernel_rfl) (by kernel_rfl) (fun _ _ _ h => h) (Or.inl ⟨by rfl, fun w' hs => by go_simp⟩) hH ?_
      try simp only [Act.put, List.setIfInBounds_toArray, List.set_cons_zero, List.set_cons_succ]
      refine wpAnyH_take (i := 8) (oi := { dst := some 163, op := Op.move (Operand.tmp 21), type := 43, pos := "law.go:188", after := #[{ on := 11, ground := Ground.gcOnly Departure.lateStores }], guard := none }) (v := .slice pa N pc) rfl (by kernel_rfl) (by kernel_rfl) (by kernel_rfl) (fun _ _ _ h => h) (Or.inl ⟨by rfl, fun w' hs => by go_simp⟩) hH ?_
      try simp only [Act.put, List.setIfInBounds_toArray, List.set_cons_zero, List.set_cons_succ]
      refine wpAnyH_take (i := 9) (oi := { dst := some 164, op := Op.build 45 #[(0, Operand.tmp 162), (1, Operand.tmp 163)], type := 45, pos := "law.go:188", after := #[{ on := 7, ground := Ground.data }, { on := 8, ground := Ground.data }, { on := 11, ground := Ground.gcOnly Departure.lateStores }], guard := none }) (v := .agg #[.slice va vm vc, .slice pa N pc]) rfl (by kernel_rfl) (by kernel_rfl) (by kernel_rfl) (fun _ _ _ h => h) (Or.inl ⟨by rfl, fun w' hs => by go_simp⟩) hH ?_
      try simp only [Act.put, List.setIfInBounds_toArray, List.set_cons_zero, List.set_cons_succ]
      refine wpAnyH_ready (rs := [5]) (by kernel_rfl) (by simp) ?_
      refine AllReadyH.cons (o := { dst := some 160, op := Op.call { callee := Callee.value (Operand.func 25), args := #[Operand.tmp 158, Operand.tmp 159], argTypes := #[42, 5] }, type := 4, pos := "law.go:188", after := #[{ on := 3, ground := Ground.data }, { on := 4, ground := Ground.data }, { on := 2, ground := Ground.chain }, { on := 2, ground := Ground.guard }], guard := some (2, true) }) rfl (fun Kx hK => ?_) AllReadyH.nil
      go_simp
      refine (APT.out _ (Below.drew (Below.refl _ _))).mono ?_
      rintro e w7 ⟨rfl, q7⟩
      have E7 : Hid (DSZ R bm B T2 lb Q (after (boL lb []) o.now L) (after (boL l hs) o.now ys) a2 n2 c2 w w7 ∧ AQ w3.heap.size bl m wr bl.length w7) := FIN7.out w7 ⟨⟨q7.kp.os, q7.kp.tape, q7.kp.output, q7.kp.size, q7.kp.block⟩, q7.row, q7.rd⟩
      clear q7
      refine hK.out _ _ E7.out.1.x (fun hH => ?_)
      try simp only [Act.put, List.setIfInBounds_toArray, List.set_cons_zero, List.set_cons_succ]
      refine wpAnyH_take (i := 6) (oi := { dst := some 161, op := Op.pick (Operand.tmp 157) (Operand.tmp 160) (Operand.const (Value.bool false)), type := 4, pos := "law.go:188", after := #[{ on := 2, ground := Ground.data }, { on := 5, ground := Ground.data }, { on := 10, ground := Ground.gcOnly Departure.lateStores }], guard := none }) (v := .bool true) rfl (by kernel_rfl) (by kernel_rfl) (by kernel_rfl) (fun _ _ _ h => h) (Or.inl ⟨by rfl, fun w' hs => by go_simp⟩) hH ?_
      try simp only [Act.put, List.setIfInBounds_toArray, List.set_cons_zero, List.set_cons_succ]
      refine wpAnyH_ready (rs := [10]) (by kernel_rfl) (by simp) ?_
      refine AllReadyH.cons (o := { dst := none, op := Op.store 39 (Operand.tmp 8) (Operand.tmp 155), type := 0, pos := "law.go:188", after := #[{ on := 0, ground := Ground.data }, { on := 5, ground := Ground.chain }, { on := 0, ground := Ground.phase }, { on := 1, ground := Ground.textOnly Departure.lateStores }, { on := 2, ground := Ground.textOnly Departure.lateStores }, { on := 3, ground := Ground.textOnly Departure.lateStores }, { on := 4, ground := Ground.textOnly Departure.lateStores }, { on := 5, ground := Ground.textOnly Departure.lateStoresUnsure }, { on := 6, ground := Ground.textOnly Departure.lateStores }, { on := 7, ground := Ground.textOnly Departure.lateStores }, { on := 8, ground := Ground.textOnly Departure.lateStores }, { on := 9, ground := Ground.textOnly Departure.lateStores }], guard := none }) rfl (fun Kx hK => ?_) AllReadyH.nil
      refine op_putO (zs := [.pointer none, .slice none 0 0]) [.pointer (some ⟨R, 0, none⟩), .slice a2 n2 c2] rfl sizePr (two_one _ _ rfl rfl) rfl _ _ rfl (Q + 3) rfl rfl E7.out.1.y ?_
      intro w8 nb8 g8
      have X8 : Blk (Q + 1) 39 [.pointer (some ⟨R, 0, none⟩), .slice a2 n2 c2] w8 := E7.out.1.x.grown g8 (fun q => by injection q with q; omega)
      refine hK.out _ _ X8 (fun hH => ?_)
      try simp only [Act.put, List.setIfInBounds_toArray, List.set_cons_zero, List.set_cons_succ]
      refine wpAnyH_take (i := 11) (oi := { dst := some 9, op := Op.assign (Operand.tmp 161), type := 4, pos := "law.go:188", after := #[{ on := 6, ground := Ground.data }, { on := 10, ground := Ground.chain }, { on := 0, ground := Ground.phase }, { on := 1, ground := Ground.phase }, { on := 2, ground := Ground.phase }, { on := 3, ground := Ground.phase }, { on := 4, ground := Ground.phase }, { on := 5, ground := Ground.phase }, { on := 6, ground := Ground.phase }, { on := 7, ground := Ground.textOnly Departure.lateStores }, { on := 8, ground := Ground.textOnly Departure.lateStores }, { on := 9, ground := Ground.textOnly Departure.lateStores }, { on := 10, ground := Ground.phase }], guard := none }) (v := .bool true) rfl (by kernel_rfl) (by kernel_rfl) (by kernel_rfl) (fun _ _ _ h => h) (Or.inl ⟨by rfl, fun w' hs => by go_simp⟩) hH ?_
      try simp only [Act.put, List.setIfInBounds_toArray, List.set_cons_zero, List.set_cons_succ]
      refine wpAnyH_ready (rs := [12]) (by kernel_rfl) (by simp) ?_
      refine AllReadyH.cons (o := { dst := none, op := Op.store 45 (Operand.tmp 10) (Operand.tmp 164), type := 0, pos := "law.go:188", after := #[{ on := 9, ground := Ground.data }, { on := 11, ground := Ground.chain }, { on := 0, ground := Ground.phase }, { on := 1, ground := Ground.phase }, { on := 2, ground := Ground.phase }, { on := 3, ground := Ground.phase }, { on := 4, ground := Ground.phase }, { on := 5, ground := Ground.phase }, { on := 6, ground := Ground.phase }, { on := 7, ground := Ground.phase }, { on := 8, ground := Ground.phase }, { on := 9, ground := Ground.phase }, { on := 10, ground := Ground.phase }, { on := 11, ground := Ground.phase }], guard := none }) rfl (fun Kx hK => ?_) AllReadyH.nil
      refine op_putO (zs := [.slice none 0 0, .slice none 0 0]) [.slice va vm vc, .slice pa N pc] rfl sizeOu (two_one _ _ rfl rfl) rfl _ _ rfl (Q + 4) rfl rfl (E7.out.1.z.grown g8 (fun q => by injection q with q; omega)) ?_
      intro w9 nb9 g9
      refine hK.out _ _ (X8.grown g9 (fun q => by injection q with q; omega)) (fun hH => ?_)
      try simp only [Act.put, List.setIfInBounds_toArray, List.set_cons_zero, List.set_cons_succ]
      refine wpAnyH_done (by kernel_rfl) ?_ _
      clear hH hK
      go_wp2_with fail
      refine ret_ctc rfl rfl (Q + 3) 39 [.pointer (some ⟨R, 0, none⟩), .slice a2 n2 c2] _ rfl (nb8.grown g9 (fun q => by injection q with q; omega)) Try.underlying39 rfl sizePr (Q + 4) 45 [.slice va vm vc, .slice pa N pc] _ rfl nb9 Try.underlying45 rfl sizeOu ?_
      exact FIN9.out w7 w8 w9 E7.out g8 g9
end Go.Proofs.Yteppdlaoeoeplaa

namespace Go.Proofs.Yteppdlaoeoeplaa
open Go.RowKit ObM LedM PolM
set_option linter.unusedSimpArgs false

namespace ObM
def En.by (p : En) : By := ⟨p.ba, p.bn, p.bc⟩
def z6 : List Value := [.int .i64 (-6), .int .i64 0, .int .i64 0, .slice none 0 0]
end ObM
theorem z6_one : ∀ v ∈ z6, v.oneCell' = true := fun v hv => by
  simp only [z6, List.mem_cons, List.mem_nil_iff, or_false] at hv
  rcases hv with rfl | rfl | rfl | rfl <;> rfl
theorem OutQ.apt {base : Nat} {w : World} {v : Value} {ps : List En} (h : OutQ base w v ps) : Apt (ps.map En.by) := fun i x j b hx hb hij g hg e => by
  rw [List.getElem?_map] at hx hb
  obtain ⟨p, hp, rfl⟩ := Option.map_eq_some_iff.1 hx
  obtain ⟨q, hq, rfl⟩ := Option.map_eq_some_iff.1 hb
  obtain ⟨h1, rfl⟩ := List.getElem?_eq_some_iff.1 hp
  obtain ⟨h2, rfl⟩ := List.getElem?_eq_some_iff.1 hq
  have ap := List.pairwise_iff_getElem.1 h.ap
  rcases Nat.lt_or_gt_of_ne hij with q | q
  · exact ap i j h1 h2 q g e hg
  · exact ap j i h2 h1 q g hg e
/-- A body lies in memory of its own. -/
theorem body_own {base : Nat} {w : World} {p : En} (r : RowB 5 base w p.bv p.bs) : p.bn = p.bs.length ∧ ∃ vs, w.ownsRow base 5 1 p.by.v p.by.bn vs := by
  unfold RowB RowV at r
  have e : p.bn = (p.bs.map bv).length := own_len r
  refine ⟨by rw [e, List.length_map], p.bs.map bv, ?_⟩
  show w.ownsRow base 5 1 p.bv p.bn _
  rw [e]
  rw [← e] at r ⊢
  exact r
/-- The list that was told, from the k-th on as it was. -/
def GI (gv : Value) (N : Nat) (qs : List En) (k : Nat) (w : World) : Prop := ∀ G cap, gv = .slice (some ⟨G, 0, none⟩) N cap → ∃ cur, Blk G 72 cur w ∧ N * 4 ≤ cur.length ∧ ∀ i x j u, k ≤ i → qs[i]? = some x → (enL x)[j]? = some u → cur[i * 4 + j]? = some u
theorem GI.start {base N : Nat} {w : World} {gv : Value} {qs : List En} (h : OutQ base w gv qs) (hN : qs.length = N) : GI gv N qs 0 w := fun G cap e => by
  subst e
  rcases Row4.open (f := enL) h.row with ⟨h1, _⟩ | ⟨g', cap', cur, h1, _, h2, h3, h4, h5, h6⟩
  · cases h1
  · injection h1 with h1 hn hc
    injection h1 with h1
    injection h1 with h1 ho
    subst h1 hc
    refine ⟨cur, h2, by omega, fun i x j u _ hx hu => ?_⟩
    have hj : j < 4 := by have := (List.getElem?_eq_some_iff.1 hu).1; rwa [enL_len] at this
    have hl := (List.getElem?_eq_some_iff.1 hx).1
    have := fm4_at enL_len qs i j x hx hj
    rw [← h6, List.getElem?_take, if_pos (by omega), hu] at this
    exact this
theorem GI.kp {gv : Value} {N k : Nat} {qs : List En} {w w' : World} {M : Nat → Prop} (h : GI gv N qs k w) (q : Kp M w w') (hM : ∀ g, gv.ownBlock = some g → ¬ M g) : GI gv N qs k w' := fun G cap e => by
  obtain ⟨cur, h1, h2⟩ := h G cap e
  exact ⟨cur, h1.kp q (hM G (by rw [e]; rfl)), h2⟩
theorem GI.mark {G N cap k : Nat} {qs : List En} {cur : List Value} {w' : World} (h2 : N * 4 ≤ cur.length) (h3 : ∀ i x j u, k ≤ i → qs[i]? = some x → (enL x)[j]? = some u → cur[i * 4 + j]? = some u) (hk : k < N) (nb : Blk G 72 (cur.take (k * 4) ++ z6 ++ cur.drop (k * 4 + z6.length)) w') : GI (.slice (some ⟨G, 0, none⟩) N cap) N qs (k + 1) w' := fun G' cap' e => by
  injection e with e _ _
  injection e with e
  injection e with e
  subst e
  have hz : z6.length = 4 := rfl
  have ht : (cur.take (k * 4)).length = k * 4 := by rw [List.length_take]; omega
  refine ⟨_, nb, ?_, fun i x j u hi hx hu => ?_⟩
  · simp only [List.length_append, List.length_take, List.length_drop, hz]; omega
  · rw [List.getElem?_append_right (by rw [List.length_append, ht, hz]; omega), List.length_append, ht, hz, List.getElem?_drop]
    rw [show k * 4 + 4 + (i * 4 + j - (k * 4 + 4)) = i * 4 + j by omega]
    exact h3 i x j u (by omega) hx hu
end Go.Proofs.Yteppdlaoeoeplaa

namespace Go.Proofs.Yteppdlaoeoeplaa
open Go.RowKit ObM LedM PolM
set_option linter.unusedSimpArgs false

/-- What step answers to Pending. -/
def StPen (R bm : Nat) (B T : Nat → Prop) (lb : List Int) (m : Int) (w : World) (L ys : List En) (a : Option Addr) (n c : Nat) (e : Ending) (w' : World) : Prop :=
  ∃ Z va vm vc bl, e = .returned (.tuple #[.agg #[.pointer (some ⟨R, 0, none⟩), .slice a n c], .bool true, .agg #[.slice va vm vc, .slice none 0 0]]) ∧ OPost R bm B lb w L B w' ∧ RL T w' a n c ys ∧ w.heap.size ≤ Z ∧ HOut Z m w' bl (.slice va vm vc) ⟨none, 0, 0⟩ ∧ bl.length ≤ L.length
/-- What stands behind Pending's loop. -/
structure PSZ (R bm : Nat) (B T : Nat → Prop) (lb : List Int) (Q : Nat) (L ys : List En) (a : Option Addr) (n c : Nat) (zz : Nat) (tv : Value) (ts : List En) (w wr : World) : Prop where
  x : Blk (Q + 1) 39 [.pointer (some ⟨R, 0, none⟩), .slice a n c] wr
  y : Blk (Q + 3) 39 [.pointer none, .slice none 0 0] wr
  z : Blk (Q + 4) 45 [.slice none 0 0, .slice none 0 0] wr
  p : OPost R bm B lb w L B wr
  r : RL T wr a n c ys
  t : OutQ zz wr tv ts
section
variable {R bm : Nat} {B T : Nat → Prop} {lb : List Int} {Q : Nat} {L ys : List En} {a : Option Addr} {n c : Nat} {zz : Nat} {tv : Value} {ts : List En} {w w1 w2 : World}
theorem PSZ.kp {M : Nat → Prop} (h : PSZ R bm B T lb Q L ys a n c zz tv ts w w1) (k : Kp M w1 w2) (hM : ∀ g, M g → w.heap.size ≤ g ∧ g ≠ R ∧ g ≠ bm ∧ ¬ B g ∧ Q + 4 < g ∧ g < zz ∧ ¬ T g) : PSZ R bm B T lb Q L ys a n c zz tv ts w w2 :=
  ⟨h.x.kp k (fun q => by have := hM _ q; omega), h.y.kp k (fun q => by have := hM _ q; omega), h.z.kp k (fun q => by have := hM _ q; omega), h.p.farK k (fun g q => ⟨(hM g q).1, (hM g q).2.1, (hM g q).2.2.1, (hM g q).2.2.2.1⟩), h.r.kp k (fun g hg q => (hM g q).2.2.2.2.2.2 hg), h.t.kp k (fun g hg q => by have := hM g q; omega)⟩
theorem PSZ.below (h : PSZ R bm B T lb Q L ys a n c zz tv ts w w1) (b : Below w1.heap.size w1 w2) : PSZ R bm B T lb Q L ys a n c zz tv ts w w2 := h.kp (Kp.of_below b (fun _ => False)) (fun _ q => q.elim)
end
set_option maxRecDepth 40000 in
set_option maxHeartbeats 8000000 in
theorem step_pend (R bm : Nat) (B T : Nat → Prop) (lb l : List Int) (s : Value) (L ys : List En) (a : Option Addr) (n c : Nat) (o : Oc) (xa : Option Addr) (xc : Nat) (m : Int) (w : World) (h : BoxV R bm B lb L w) (hr : RL T w a n c ys) (k4 : o.kd = 4) (hl2 : L.length ≤ 1000000000) (hal : L.map core = ys.map core) (hbs : ∀ e ∈ L, e.bs.length ≤ 1000000000) (hm : 0 ≤ m ∧ m < 256) :
    Calls Try.prog 12 #[.agg (polL l s).toArray, .agg #[.pointer (some ⟨R, 0, none⟩), .slice a n c], .agg (ocL o xa xc).toArray, .int .u8 m] w (StPen R bm B T lb m w L ys a n c) := by
  obtain ⟨i0, hi, hz0, hz1, hz2⟩ := info_parts infoUl
  have HM : Hid (0 ≤ m ∧ m < 256) := hm
  have FAR : Hid (∀ G, w.heap.size ≤ G → G ≠ R ∧ G ≠ bm ∧ ¬ B G) := fun G hG => ⟨by have := h.blk.lt; omega, by have := h.mp.lt; omega, fun q => by have := (h.b G q).1; omega⟩
  have HTW : Hid (∀ g, T g → g < w.heap.size) := hr.lt
  have PEN : Hid (∀ w', BoxV R bm B lb L w' → Calls Try.prog 26 #[.pointer (some ⟨R, 0, none⟩)] w' (PenAns R bm B lb L w')) := fun w' q => pending_at R bm B lb L w' q hl2
  have HC : Hid (L.map core = ys.map core) := hal
  have HLB : Hid (∀ qs : List En, qs.map core = L.map core → (∀ q ∈ qs, q.bs.length ≤ 1000000000) ∧ qs.length ≤ 1000000000 ∧ qs.map core = ys.map core) := fun qs e => by
    refine ⟨fun q hq => ?_, ?_, e.trans hal⟩
    · have : core q ∈ L.map core := by rw [← e]; exact List.mem_map.2 ⟨q, hq, rfl⟩
      obtain ⟨x, hx, ex⟩ := List.mem_map.1 this
      have e4 : x.bs = q.bs := by have := congrArg (fun p => p.2.2.2) ex; exact this
      rw [← e4]
      exact hbs x hx
    · have := congrArg List.length e
      rw [List.length_map, List.length_map] at this
      omega
  clear hl2 hal hbs hm
  have W0 : Hid (BoxV R bm B lb L w ∧ RL T w a n c ys) := ⟨h, hr⟩
  have e1 : (o.kd == 1) = false := by rw [k4]; rfl
  have e2 : (o.kd == 2) = false := by rw [k4]; rfl
  have e3 : (o.kd == 3) = false := by rw [k4]; rfl
  have e4 : (o.kd == 4) = true := by rw [k4]; rfl
  clear k4
  obtain ⟨Q, hQ⟩ : ∃ Q, w.heap.size = Q := ⟨_, rfl⟩
  have HQ : Hid (w.heap.size = Q) := hQ
  obtain ⟨w0, hw0⟩ : ∃ w0, w.alloc (.cells (polL l s).toArray 24) = w0 := ⟨_, rfl⟩
  obtain ⟨w1, hw1⟩ : ∃ w1, ((((w0.alloc (.cells #[.pointer (some ⟨R, 0, none⟩), .slice a n c] 39)).alloc (.cells (ocL o xa xc).toArray 30)).alloc (.cells #[.pointer none, .slice none 0 0] 39)).alloc (.cells #[.slice none 0 0, .slice none 0 0] 45)) = w1 := ⟨_, rfl⟩
  have eQ : w0.heap.size = Q + 1 := by rw [← hw0, ← hQ]; simp
  have S1 : Hid (SB Q l s R (.slice a n c) o xa xc w1 ∧ Below w.heap.size w w1) := by
    rw [← hw1, ← hw0, ← hQ]
    exact SB.new w
  clear h hr
  go_enter Try.func12, Try.ntmps12
  go_upto_region 1 with fail
  clear hQ hw1 hw0 eQ
  have c0 := S1.out.1.o.cell 0 _ rfl
  have lt2 := S1.out.1.o.lt
  have x0 := S1.out.1.x.cell 0 _ rfl
  have lt1 := S1.out.1.x.lt
  have SZ1 : Hid (Q + 4 < w1.heap.size ∧ w.heap.size ≤ w1.heap.size) := ⟨S1.out.1.z.lt, S1.out.2.size⟩
  go_wp2_with fail
  refine (PEN.out _ (W0.out.1.below S1.out.2)).mono ?_
  rintro e w2 ⟨pa, pn, pc, qs, rfl, out2, eq2, bx2, b2⟩
  have S2 : Hid (Blk (Q + 1) 39 [.pointer (some ⟨R, 0, none⟩), .slice a n c] w2 ∧ Blk (Q + 3) 39 [.pointer none, .slice none 0 0] w2 ∧ Blk (Q + 4) 45 [.slice none 0 0, .slice none 0 0] w2 ∧ BoxV R bm B lb L w2 ∧ RL T w2 a n c ys ∧ OutQ w1.heap.size w2 (.slice pa pn pc) qs ∧ Below w1.heap.size w1 w2) := ⟨S1.out.1.x.below b2, S1.out.1.y.below b2, S1.out.1.z.below b2, bx2, (W0.out.2.below S1.out.2).below b2, out2, b2⟩
  have EQ2 : Hid (qs.map core = L.map core) := eq2
  clear out2 eq2 bx2 b2 x0 lt1 c0 lt2
  have x0 := S2.out.1.cell 0 _ rfl
  have lt1 := S2.out.1.lt
  go_wp2_with fail
  refine (PEN.out _ S2.out.2.2.2.1).mono ?_
  rintro e w3 ⟨ta, tn, tc, ts, rfl, out3, eq3, bx3, b3⟩
  have S3 : Hid (Blk (Q + 1) 39 [.pointer (some ⟨R, 0, none⟩), .slice a n c] w3 ∧ Blk (Q + 3) 39 [.pointer none, .slice none 0 0] w3 ∧ Blk (Q + 4) 45 [.slice none 0 0, .slice none 0 0] w3 ∧ OPost R bm B lb w L B w3 ∧ RL T w3 a n c ys ∧ OutQ w1.heap.size w3 (.slice pa pn pc) qs ∧ OutQ w2.heap.size w3 (.slice ta tn tc) ts ∧ Below w1.heap.size w1 w3) := ⟨S2.out.1.below b3, S2.out.2.1.below b3, S2.out.2.2.1.below b3, OPost.refl W0.out.1 (below_trans (below_trans S1.out.2 S2.out.2.2.2.2.2.2) b3), S2.out.2.2.2.2.1.below b3, S2.out.2.2.2.2.2.1.below b3, out3, below_trans S2.out.2.2.2.2.2.2 b3⟩
  have EQ3 : Hid (ts.map core = L.map core) := eq3
  have SZ3 : Hid (w1.heap.size ≤ w2.heap.size ∧ w2.heap.size ≤ w3.heap.size ∧ (∀ g, (Value.slice pa pn pc).ownBlock = some g → w1.heap.size ≤ g ∧ g < w2.heap.size) ∧ ∀ q ∈ qs, ∀ g, q.bv.ownBlock = some g → w1.heap.size ≤ g ∧ g < w2.heap.size) := ⟨S2.out.2.2.2.2.2.2.size, b3.size, fun g hg => ⟨(own_heap S2.out.2.2.2.2.2.1.row hg).1, own_lt S2.out.2.2.2.2.2.1.row hg⟩, fun q hq g hg => ⟨RowV.block_ge (S2.out.2.2.2.2.2.1.bd q hq) hg, RowV.block_lt (S2.out.2.2.2.2.2.1.bd q hq) hg⟩⟩
  clear out3 eq3 bx3 b3 x0 lt1 S2 PEN
  have LP := HLB.out qs EQ2.out
  have PY1 : Hid (Calls Try.prog 27 #[.slice pa pn pc, .slice a n c] w3 fun e w' => e = .returned (.bool true) ∧ Below w3.heap.size w3 w') := pendings_yes qs ys _ _ w3 (by have := LP.2.1; omega) (OutQ.rdl S3.out.2.2.2.2.2.1 (fun p hp => by have := LP.1 p hp; omega)) S3.out.2.2.2.2.1.rd LP.2.2
  have HLP : Hid ((∀ q ∈ qs, q.bs.length ≤ 1000000000) ∧ qs.length ≤ 1000000000) := ⟨LP.1, LP.2.1⟩
  obtain rfl : pn = qs.length := own_len S3.out.2.2.2.2.2.1.row
  obtain ⟨N, hN⟩ : ∃ N, qs.length = N := ⟨_, rfl⟩
  have HN : Hid (qs.length = N) := hN
  have hN9 : N ≤ 1000000000 := by rw [← hN]; exact LP.2.1
  rw [hN] at S3 SZ3 PY1 ⊢
  clear LP hN
  have x1 := S3.out.1.cell 1 _ rfl
  have lt1 := S3.out.1.lt
  go_wp2_with fail
  refine PY1.out.mono ?_
  rintro e w5 ⟨rfl, b5⟩
  have E5 : Hid (PSZ R bm B T lb Q L ys a n c w2.heap.size (.slice ta tn tc) ts w w5 ∧ OutQ w1.heap.size w5 (.slice pa N pc) qs) := ⟨⟨S3.out.1.below b5, S3.out.2.1.below b5, S3.out.2.2.1.below b5, S3.out.2.2.2.1.trans (OPost.refl S3.out.2.2.2.1.box b5), S3.out.2.2.2.2.1.below b5, S3.out.2.2.2.2.2.2.1.below b5⟩, S3.out.2.2.2.2.2.1.below b5⟩
  have SZ5 : Hid (w2.heap.size ≤ w5.heap.size) := Nat.le_trans SZ3.out.2.1 b5.size
  have D1 : Hid (Kp (fun g => (Value.slice pa N pc).ownBlock = some g) w5 w5 ∧ GI (.slice pa N pc) N qs 0 w5 ∧ w5.ownsRow w5.heap.size 28 1 (.slice none 0 0) 0 ((qs.take 0).map En.bv)) := ⟨Kp.refl _ _, GI.start E5.out.2 HN.out, by simpa using World.ownsRow_nil w5 w5.heap.size 28 1⟩
  clear b5 PY1 S3 x1 lt1
  go_wp2_with fail
  go_loopw [11, 27] (fun v vk wr => ∃ k : Nat, ∃ va vm vc, vk = .int .i64 (k : Int) ∧ k ≤ N ∧ v = .slice va vm vc ∧ Hid (Kp (fun g => (Value.slice pa N pc).ownBlock = some g) w5 wr ∧ GI (.slice pa N pc) N qs k wr ∧ wr.ownsRow w5.heap.size 28 1 (.slice va vm vc) k ((qs.take k).map En.bv))) (fun _ vk _ => N - (intOf vk).toNat)
  case atStart => exact ⟨0, none, 0, 0, rfl, by omega, rfl, D1⟩
  case round =>
    clear D1
    obtain ⟨k, va, vm, vc, rfl, hk, rfl, D⟩ := hrel
    by_cases hlt : (k : Int) < (N : Int)
    · obtain ⟨x, hx⟩ : ∃ x, qs[k]? = some x := ⟨qs[k]'(by rw [HN.out]; omega), List.getElem?_eq_getElem _⟩
      obtain ⟨gl, cap, e0, -, -, gge⟩ := Row4.some (f := enL) E5.out.2.row (by rw [HN.out]; omega)
      injection e0 with e01 e02 e03
      clear e02
      subst e01
      subst e03
      obtain ⟨cur, kb, kl, kc⟩ := D.out.2.1 gl _ rfl
      have c3 : wr.cell? ⟨gl, k * 4 + 3, none⟩ = some (.slice x.ba x.bn x.bc) := Blk.cell kb _ _ (kc k x 3 _ (Nat.le_refl _) hx rfl)
      have glt := Blk.lt kb
      have SN : Hid ((qs.take (k + 1)).map En.bv = (qs.take k).map En.bv ++ [.slice x.ba x.bn x.bc]) := by show _ = _; rw [List.take_add_one, hx, List.map_append]; rfl
      have l1 : k + 1 ≤ maxLen := by unfold maxLen; omega
      have l2 : (k + 1) * 24 ≤ 140737488355328 := by omega
      have hsz : w5.heap.size ≤ wr.heap.size := D.out.1.size
      have on1 : ∀ u ∈ [Value.slice x.ba x.bn x.bc], u.oneCell' = true := by intro u hu; simp at hu; subst hu; rfl
      have gl2 := SZ3.out.2.2.1 gl rfl
      have KC : Hid (∀ i x j u, k ≤ i → qs[i]? = some x → (enL x)[j]? = some u → cur[i * 4 + j]? = some u) := kc
      have KB : Hid (Blk gl 72 cur wr) := kb
      clear hx kc kb
      go_upto_region 41 with (at_builtin; refine wpList_pushR rfl (.tmp 184) (.tmp 190) 42 rfl 28 i0 (.slice none 0 0) 1 24 Try.underlying42 hi hz0 hz1 hz2 rfl (by decide) w5.heap.size (.slice va vm vc) k ((qs.take k).map En.bv) [.slice x.ba x.bn x.bc] rfl on1 rfl D.out.2.2 hsz rfl l1 l2 ?_; intro a6 n6 c6 w6 r6 g6 x6)
      have ne6 : ¬ ((Value.slice va vm vc).ownBlock = some gl) := fun e => by have := (own_heap D.out.2.2 e).1; have := SZ5.out; omega
      have B6 : Hid (Blk gl 72 cur w6) := KB.out.kp (Kp.of_grown g6) ne6
      have glt6 := B6.out.lt
      have fit : k * 4 + z6.length ≤ cur.length := by show k * 4 + 4 ≤ _; omega
      have D6 : Hid (Kp (fun g => (Value.slice (some ⟨gl, 0, none⟩) N pc).ownBlock = some g) w5 w6 ∧ w6.ownsRow w5.heap.size 28 1 (.slice a6 n6 c6) (k + 1) ((qs.take (k + 1)).map En.bv)) := ⟨D.out.1.trans (Kp.of_grown g6) (fun g hg e => by have := (own_heap D.out.2.2 e).1; omega), by rw [SN.out]; exact r6⟩
      clear r6 g6 x6 c3 glt on1 KB D SN
      go_wp2_with ((with_reducible refine at_store ?_); refine step_store rfl 72 _ _ rfl gl (k * 4) 72 cur z6 rfl rfl B6.out fit sizePn z6_one ?_; intro w7 nb7 g7)
      have D7 : Hid (Kp (fun g => (Value.slice (some ⟨gl, 0, none⟩) N pc).ownBlock = some g) w5 w7 ∧ GI (.slice (some ⟨gl, 0, none⟩) N pc) N qs (k + 1) w7 ∧ w7.ownsRow w5.heap.size 28 1 (.slice a6 n6 c6) (k + 1) ((qs.take (k + 1)).map En.bv)) := ⟨D6.out.1.trans (Kp.of_grown g7) (fun g _ e => e), GI.mark kl KC.out (by omega) nb7, own_grown D6.out.2 g7 (fun g hg e => by injection e with e; have := (own_heap D6.out.2 hg).1; have := SZ5.out; omega)⟩
      clear nb7 g7 D6 B6 KC
      go_roundw
      case rel => exact ⟨k + 1, a6, n6, c6, by go_num, by omega, rfl, D7⟩
      case measure => simp [intOf]; omega
    · obtain rfl : N = k := by omega
      have FB : ∀ g, (Value.slice pa N pc).ownBlock = some g → w.heap.size ≤ g ∧ g ≠ R ∧ g ≠ bm ∧ ¬ B g ∧ Q + 4 < g ∧ g < w2.heap.size ∧ ¬ T g := fun g hg => by
        have h1 := SZ3.out.2.2.1 g hg
        have h2 := SZ1.out
        have h3 := FAR.out g (by omega)
        exact ⟨by omega, h3.1, h3.2.1, h3.2.2, by omega, h1.2, fun q => by have := HTW.out g q; omega⟩
      have E0 : Hid (PSZ R bm B T lb Q L ys a n c w2.heap.size (.slice ta tn tc) ts w wr) := E5.out.1.kp D.out.1 FB
      obtain ⟨bl, hbl⟩ : ∃ bl, qs.map En.by = bl := ⟨_, rfl⟩
      have ebv : bl.map By.v = (qs.take N).map En.bv := by
        rw [← hbl, List.map_map, List.take_of_length_le (by rw [HN.out]; exact Nat.le_refl _)]
        rfl
      have ap := E5.out.2.apt
      rw [hbl] at ap
      have lbl : bl.length = N := by rw [← hbl, List.length_map, HN.out]
      have BD : ∀ q ∈ qs, RowB 5 w1.heap.size wr q.bv q.bs := fun q hq => (E5.out.2.bd q hq).kp D.out.1 (fun g hg e => by
        obtain ⟨_, _, h1⟩ := own_heap (E5.out.2.bd q hq) hg
        obtain ⟨_, _, h2⟩ := own_heap E5.out.2.row e
        exact ne_ty h1 h2 (by decide) rfl)
      have BB : ∀ b ∈ bl, (∃ vs, wr.ownsRow w1.heap.size 5 1 b.v b.bn vs) ∧ b.bn ≤ 1000000000 ∧ ∀ g, b.v.ownBlock = some g → w1.heap.size ≤ g ∧ g < w2.heap.size := fun b hb => by
        rw [← hbl] at hb
        obtain ⟨p, hp, rfl⟩ := List.mem_map.1 hb
        obtain ⟨y1, y2⟩ := body_own (BD p hp)
        exact ⟨y2, by show p.bn ≤ _; rw [y1]; exact HLP.out.1 p hp, fun g hg => SZ3.out.2.2.2 p hp g hg⟩
      have VB : ∀ g, (Value.slice va vm vc).ownBlock = some g → w5.heap.size ≤ g := fun g hg => (own_heap D.out.2.2 hg).1
      have rdb : Rd wr (.slice va vm vc) (bl.map By.v) := by
        have r := D.out.2.2
        rw [← ebv] at r
        have hlen := r.1
        rw [Nat.mul_one] at hlen
        have : RowV 28 w5.heap.size wr (.slice va vm vc) (bl.map By.v) := by unfold RowV; rw [hlen]; exact r
        exact RowV.rd this
      have hB3 : w1.heap.size ≤ wr.heap.size := by have h1 := SZ3.out.1; have h2 := SZ5.out; have h3 := D.out.1.size; omega
      have APT : Hid (∀ w', Below wr.heap.size wr w' → Calls Try.prog 25 #[.slice va vm vc, .int .u8 m] w' fun e w'' => e = .returned (.bool true) ∧ AQ w1.heap.size bl m w' bl.length w'') := fun w' b => apart_at bl m va vm vc w1.heap.size w' (rdb.later b) (Nat.le_trans hB3 b.size) (fun x hx => ⟨by
        obtain ⟨vs, r⟩ := (BB x hx).1
        exact ⟨vs, own_kp r (Kp.of_below b (fun _ => False)) (fun _ _ q => q)⟩, (BB x hx).2.1⟩) ap (fun x hx g hg e => by have := (BB x hx).2.2 g hg; have := VB g e; have := SZ5.out; omega) (by omega) HM.out
      have FM : ∀ g, (∃ b ∈ bl, b.v.ownBlock = some g) → w.heap.size ≤ g ∧ g ≠ R ∧ g ≠ bm ∧ ¬ B g ∧ Q + 4 < g ∧ g < w2.heap.size ∧ ¬ T g := fun g ⟨b, hb, e⟩ => by
        have h1 := (BB b hb).2.2 g e
        have h2 := SZ1.out
        have h3 := FAR.out g (by omega)
        exact ⟨by omega, h3.1, h3.2.1, h3.2.2, by omega, h1.2, fun q => by have := HTW.out g q; omega⟩
      have FIN7 : Hid (∀ w7, AQ w1.heap.size bl m wr bl.length w7 → PSZ R bm B T lb Q L ys a n c w2.heap.size (.slice ta tn tc) ts w w7 ∧ AQ w1.heap.size bl m wr bl.length w7) := fun w7 q => ⟨E0.out.kp q.kp FM, q⟩
      have PY2 : Hid (∀ w7, PSZ R bm B T lb Q L ys a n c w2.heap.size (.slice ta tn tc) ts w w7 → Calls Try.prog 27 #[.slice ta tn tc, .slice a n c] w7 fun e w' => e = .returned (.bool true) ∧ Below w7.heap.size w7 w') := fun w7 q => by
        have lp := HLB.out ts EQ3.out
        exact pendings_yes ts ys _ _ w7 (by have := lp.2.1; omega) (OutQ.rdl q.t (fun p hp => by have := lp.1 p hp; omega)) q.r.rd lp.2.2
      have FIN9 : Hid (∀ w7 w8 w9 w10, (PSZ R bm B T lb Q L ys a n c w2.heap.size (.slice ta tn tc) ts w w7 ∧ AQ w1.heap.size bl m wr bl.length w7) → (PSZ R bm B T lb Q L ys a n c w2.heap.size (.slice ta tn tc) ts w w8 ∧ Below w7.heap.size w7 w8) → w8.grownBy w9 (some (Q + 3)) → w9.grownBy w10 (some (Q + 4)) → StPen R bm B T lb m w L ys a n c (.returned (.tuple #[.agg #[.pointer (some ⟨R, 0, none⟩), .slice a n c], .bool true, .agg #[.slice va vm vc, .slice none 0 0]])) w10) := fun w7 w8 w9 w10 q q8 g9 g10 => by
        have K8 := Kp.of_below q8.2 (fun _ => False)
        have K9 := Kp.of_grown g9
        have K10 := Kp.of_grown g10
        have hq := HQ.out
        have s1 := SZ1.out
        have n9 : ∀ x, w1.heap.size ≤ x → ¬ (some (Q + 3) = some x) := fun x hx e => by injection e with e; omega
        have n10 : ∀ x, w1.heap.size ≤ x → ¬ (some (Q + 4) = some x) := fun x hx e => by injection e with e; omega
        have s5 := SZ5.out
        have s3 := SZ3.out.1
        unfold StPen
        refine ⟨w1.heap.size, va, vm, vc, bl, rfl, (q8.1.p.farK K9 (fun g e => ?_)).farK K10 (fun g e => ?_), (q8.1.r.kp K9 (fun g hg e => by injection e with e; have := HTW.out g hg; omega)).kp K10 (fun g hg e => by injection e with e; have := HTW.out g hg; omega), s1.2, ⟨?_, fun g hg => ?_, ap, fun p x hx => ⟨?_, ?_⟩, fun p x hx g hg => ⟨((BB x (List.mem_of_getElem? hx)).2.2 g hg).1, by have h1 := ((BB x (List.mem_of_getElem? hx)).2.2 g hg).2; have h2 := D.out.1.size; have h3 := q.2.kp.size; have h4 := q8.2.size; have h5 := g9.size; have h6 := g10.size; omega⟩, ⟨[], World.ownsRow_nil _ _ _ _, fun j hj => ?_⟩⟩, by rw [lbl, ← HN.out, core_len EQ2.out]; exact Nat.le_refl _⟩
        · injection e with e; subst e; exact ⟨by omega, FAR.out _ (by omega)⟩
        · injection e with e; subst e; exact ⟨by omega, FAR.out _ (by omega)⟩
        · exact (((rdb.kp q.2.kp (fun g hg ⟨b, hb, e⟩ => by have := (BB b hb).2.2 g e; have := VB g hg; omega)).kp K8 (fun _ _ q => q)).kp K9 (fun g hg => n9 g (by have := VB g hg; omega))).kp K10 (fun g hg => n10 g (by have := VB g hg; omega))
        · have := VB g hg; omega
        · have := (BB x (List.mem_of_getElem? hx)).2.1; show x.bn ≤ _; omega
        · exact (((q.2.rd p x hx).kp K8 (fun _ _ q => q)).kp K9 (fun g hg => n9 g ((BB x (List.mem_of_getElem? hx)).2.2 g hg).1)).kp K10 (fun g hg => n10 g ((BB x (List.mem_of_getElem? hx)).2.2 g hg).1)
        · exact absurd hj (by show ¬ j < 0; omega)
      clear ebv ap lbl BB VB rdb hB3 hbl FB FM BD E5 D HLB HLP EQ2 EQ3 HC
      generalize StPen R bm B T lb m w L ys a n c = PP at *
      go_upto_region 42 with fail
      refine wp_region_held_drew (S := fun w' => Blk (Q + 1) 39 [.pointer (some ⟨R, 0, none⟩), .slice a n c] w') (by kernel_rfl) (E0.out.x) (fun hH => ?_)
      refine wpAnyH_take (i := 0) (oi := { dst := some 196, op := Op.load 39 (Operand.tmp 5), type := 39, pos := "law.go:197", after := #[], guard := none }) (v := .agg ([.pointer (some ⟨R, 0, none⟩), .slice a n c] : List Value).toArray) rfl (by kernel_rfl) (by kernel_rfl) (by kernel_rfl) (fun _ _ _ h => h) (yieldsIf_load_mid (by rfl) _ _ rfl _ 0 rfl ([.pointer (some ⟨R, 0, none⟩), .slice a n c]) _ (fun w' h => h.all) Try.underlying39 rfl sizePr) hH ?_
      try simp only [Act.put, List.setIfInBounds_toArray, List.set_cons_zero, List.set_cons_succ]
      refine wpAnyH_take (i := 1) (oi := { dst := some 197, op := Op.move (Operand.tmp 26), type := 4, pos := "law.go:197", after := #[], guard := none }) (v := .bool true) rfl (by kernel_rfl) (by kernel_rfl) (by kernel_rfl) (fun _ _ _ h => h) (Or.inl ⟨by rfl, fun w' hs => by go_simp⟩) hH ?_
      try simp only [Act.put, List.setIfInBounds_toArray, List.set_cons_zero, List.set_cons_succ]
      refine wpAnyH_take (i := 2) (oi := { dst := some 198, op := Op.move (Operand.tmp 197), type := 4, pos := "law.go:197", after := #[{ on := 1, ground := Ground.data }], guard := none }) (v := .bool true) rfl (by kernel_rfl) (by kernel_rfl) (by kernel_rfl) (fun _ _ _ h => h) (Or.inl ⟨by rfl, fun w' hs => by go_simp⟩) hH ?_
      try simp only [Act.put, List.setIfInBounds_toArray, List.set_cons_zero, List.set_cons_succ]
      refine wpAnyH_take (i := 3) (oi := { dst := some 199, op := Op.move (Operand.tmp 11), type := 42, pos := "law.go:197", after := #[{ on := 2, ground := Ground.guard }], guard := some (2, true) }) (v := .slice va vm vc) rfl (by kernel_rfl) (by kernel_rfl) (by kernel_rfl) (fun _ _ _ h => h) (Or.inl ⟨by rfl, fun w' hs => by go_simp⟩) hH ?_
      try simp only [Act.put, List.setIfInBounds_toArray, List.set_cons_zero, List.set_cons_succ]
      refine wpAnyH_take (i := 4) (oi := { dst := some 200, op := Op.move (Operand.tmp 3), type := 5, pos := "law.go:197", after := #[{ on := 2, ground := Ground.guard }], guard := some (2, true) }) (v := .int .u8 m) rfl (by kernel_rfl) (by kernel_rfl) (by kernel_rfl) (fun _ _ _ h => h) (Or.inl ⟨by rfl, fun w' hs => by go_simp⟩) hH ?_
      try simp only [Act.put, List.setIfInBounds_toArray, List.set_cons_zero, List.set_cons_succ]
      refine wpAnyH_take (i := 14) (oi := { dst := some 210, op := Op.move (Operand.tmp 11), type := 42, pos := "law.go:197", after := #[{ on := 17, ground := Ground.gcOnly Departure.lateStores }], guard := none }) (v := .slice va vm vc) rfl (by kernel_rfl) (by kernel_rfl) (by kernel_rfl) (fun _ _ _ h => h) (Or.inl ⟨by rfl, fun w' hs => by go_simp⟩) hH ?_
      try simp only [Act.put, List.setIfInBounds_toArray, List.set_cons_zero, List.set_cons_succ]
      refine wpAnyH_take (i := 15) (oi := { dst := some 211, op := Op.build 45 #[(0, Operand.tmp 210)], type := 45, pos := "law.go:197", after := #[{ on := 14, ground := Ground.data }, { on := 17, ground := Ground.gcOnly Departure.lateStores }], guard := none }) (v := .agg #[.slice va vm vc, .slice none 0 0]) rfl (by kernel_rfl) (by kernel_rfl) (by kernel_rfl) (fun _ _ _ h => h) (Or.inl ⟨by rfl, fun w' hs => by go_simp⟩) hH ?_
      try simp only [Act.put, List.setIfInBounds_toArray, List.set_cons_zero, List.set_cons_succ]
      refine wpAnyH_ready (rs := [5]) (by kernel_rfl) (by simp) ?_
      refine AllReadyH.cons (o := { dst := some 201, op := Op.call { callee := Callee.value (Operand.func 25), args := #[Operand.tmp 199, Operand.tmp 200], argTypes := #[42, 5] }, type := 4, pos := "law.go:197", after := #[{ on := 3, ground := Ground.data }, { on := 4, ground := Ground.data }, { on := 2, ground := Ground.chain }, { on := 2, ground := Ground.guard }], guard := some (2, true) }) rfl (fun Kx hK => ?_) AllReadyH.nil
      go_simp
      refine (APT.out _ (Below.drew (Below.refl _ _))).mono ?_
      rintro e w7 ⟨rfl, q7⟩
      have E7 : Hid (PSZ R bm B T lb Q L ys a n c w2.heap.size (.slice ta tn tc) ts w w7 ∧ AQ w1.heap.size bl m wr bl.length w7) := FIN7.out w7 ⟨⟨q7.kp.os, q7.kp.tape, q7.kp.output, q7.kp.size, q7.kp.block⟩, q7.row, q7.rd⟩
      clear q7
      refine hK.out _ _ E7.out.1.x (fun hH => ?_)
      try simp only [Act.put, List.setIfInBounds_toArray, List.set_cons_zero, List.set_cons_succ]
      refine wpAnyH_take (i := 6) (oi := { dst := some 202, op := Op.pick (Operand.tmp 198) (Operand.tmp 201) (Operand.const (Value.bool false)), type := 4, pos := "law.go:197", after := #[{ on := 2, ground := Ground.data }, { on := 5, ground := Ground.data }], guard := none }) (v := .bool true) rfl (by kernel_rfl) (by kernel_rfl) (by kernel_rfl) (fun _ _ _ h => h) (Or.inl ⟨by rfl, fun w' hs => by go_simp⟩) hH ?_
      try simp only [Act.put, List.setIfInBounds_toArray, List.set_cons_zero, List.set_cons_succ]
      refine wpAnyH_take (i := 7) (oi := { dst := some 203, op := Op.move (Operand.tmp 202), type := 4, pos := "law.go:197", after := #[{ on := 6, ground := Ground.data }, { on := 5, ground := Ground.chain }], guard := none }) (v := .bool true) rfl (by kernel_rfl) (by kernel_rfl) (by kernel_rfl) (fun _ _ _ h => h) (Or.inl ⟨by rfl, fun w' hs => by go_simp⟩) hH ?_
      try simp only [Act.put, List.setIfInBounds_toArray, List.set_cons_zero, List.set_cons_succ]
      refine wpAnyH_take (i := 8) (oi := { dst := some 204, op := Op.move (Operand.tmp 25), type := 35, pos := "law.go:197", after := #[{ on := 7, ground := Ground.guard }], guard := some (7, true) }) (v := .slice ta tn tc) rfl (by kernel_rfl) (by kernel_rfl) (by kernel_rfl) (fun _ _ _ h => h) (Or.inl ⟨by rfl, fun w' hs => by go_simp⟩) hH ?_
      try simp only [Act.put, List.setIfInBounds_toArray, List.set_cons_zero, List.set_cons_succ]
      refine wpAnyH_take (i := 9) (oi := { dst := some 205, op := Op.fieldAddr 39 (Operand.tmp 5) 1, type := 0, pos := "law.go:197", after := #[{ on := 7, ground := Ground.guard }], guard := some (7, true) }) (v := .pointer (some ⟨Q + 1, 1, none⟩)) rfl (by kernel_rfl) (by kernel_rfl) (by kernel_rfl) (fun _ _ _ h => h) (Or.inl ⟨by rfl, fun w' hs => by go_simp⟩) hH ?_
      try simp only [Act.put, List.setIfInBounds_toArray, List.set_cons_zero, List.set_cons_succ]
      refine wpAnyH_take (i := 10) (oi := { dst := some 206, op := Op.fieldAddr 37 (Operand.tmp 205) 0, type := 0, pos := "law.go:197", after := #[{ on := 9, ground := Ground.data }, { on := 7, ground := Ground.guard }], guard := some (7, true) }) (v := .pointer (some ⟨Q + 1, 1, none⟩)) rfl (by kernel_rfl) (by kernel_rfl) (by kernel_rfl) (fun _ _ _ h => h) (Or.inl ⟨by rfl, fun w' hs => by go_simp⟩) hH ?_
      try simp only [Act.put, List.setIfInBounds_toArray, List.set_cons_zero, List.set_cons_succ]
      refine wpAnyH_take (i := 11) (oi := { dst := some 207, op := Op.load 35 (Operand.tmp 206), type := 35, pos := "law.go:197", after := #[{ on := 10, ground := Ground.data }, { on := 7, ground := Ground.guard }], guard := some (7, true) }) (v := .slice a n c) rfl (by kernel_rfl) (by kernel_rfl) (by kernel_rfl) (fun _ _ _ h => h) (Or.inl ⟨by rfl, fun w' hs => by have c1 := Blk.cell hs 1 _ rfl; have l1 := Blk.lt hs; go_simp⟩) hH ?_
      try simp only [Act.put, List.setIfInBounds_toArray, List.set_cons_zero, List.set_cons_succ]
      refine wpAnyH_ready (rs := [12]) (by kernel_rfl) (by simp) ?_
      refine AllReadyH.cons (o := { dst := some 208, op := Op.call { callee := Callee.value (Operand.func 27), args := #[Operand.tmp 204, Operand.tmp 207], argTypes := #[35, 35] }, type := 4, pos := "law.go:197", after := #[{ on := 8, ground := Ground.data }, { on := 11, ground := Ground.data }, { on := 7, ground := Ground.chain }, { on := 7, ground := Ground.guard }], guard := some (7, true) }) rfl (fun Kx hK => ?_) AllReadyH.nil
      go_simp
      refine (PY2.out w7 E7.out.1).mono ?_
      rintro e w8 ⟨rfl, b8⟩
      have E8 : Hid (PSZ R bm B T lb Q L ys a n c w2.heap.size (.slice ta tn tc) ts w w8 ∧ Below w7.heap.size w7 w8) := ⟨E7.out.1.below b8, b8⟩
      clear b8
      refine hK.out _ _ E8.out.1.x (fun hH => ?_)
      try simp only [Act.put, List.setIfInBounds_toArray, List.set_cons_zero, List.set_cons_succ]
      refine wpAnyH_take (i := 13) (oi := { dst := some 209, op := Op.pick (Operand.tmp 203) (Operand.tmp 208) (Operand.const (Value.bool false)), type := 4, pos := "law.go:197", after := #[{ on := 7, ground := Ground.data }, { on := 12, ground := Ground.data }, { on := 16, ground := Ground.gcOnly Departure.lateStores }], guard := none }) (v := .bool true) rfl (by kernel_rfl) (by kernel_rfl) (by kernel_rfl) (fun _ _ _ h => h) (Or.inl ⟨by rfl, fun w' hs => by go_simp⟩) hH ?_
      try simp only [Act.put, List.setIfInBounds_toArray, List.set_cons_zero, List.set_cons_succ]
      refine wpAnyH_ready (rs := [16]) (by kernel_rfl) (by simp) ?_
      refine AllReadyH.cons (o := { dst := none, op := Op.store 39 (Operand.tmp 8) (Operand.tmp 196), type := 0, pos := "law.go:197", after := #[{ on := 0, ground := Ground.data }, { on := 12, ground := Ground.chain }, { on := 0, ground := Ground.phase }, { on := 1, ground := Ground.textOnly Departure.lateStores }, { on := 2, ground := Ground.textOnly Departure.lateStores }, { on := 3, ground := Ground.textOnly Departure.lateStores }, { on := 4, ground := Ground.textOnly Departure.lateStores }, { on := 5, ground := Ground.textOnly Departure.lateStoresUnsure }, { on := 6, ground := Ground.textOnly Departure.lateStores }, { on := 7, ground := Ground.textOnly Departure.lateStores }, { on := 8, ground := Ground.textOnly Departure.lateStores }, { on := 9, ground := Ground.textOnly Departure.lateStores }, { on := 10, ground := Ground.textOnly Departure.lateStores }, { on := 11, ground := Ground.textOnly Departure.lateStores }, { on := 12, ground := Ground.textOnly Departure.lateStoresUnsure }, { on := 13, ground := Ground.textOnly Departure.lateStores }, { on := 14, ground := Ground.textOnly Departure.lateStores }, { on := 15, ground := Ground.textOnly Departure.lateStores }], guard := none }) rfl (fun Kx hK => ?_) AllReadyH.nil
      refine op_putO (zs := [.pointer none, .slice none 0 0]) [.pointer (some ⟨R, 0, none⟩), .slice a n c] rfl sizePr (two_one _ _ rfl rfl) rfl _ _ rfl (Q + 3) rfl rfl E8.out.1.y ?_
      intro w9 nb9 g9
      have X9 : Blk (Q + 1) 39 [.pointer (some ⟨R, 0, none⟩), .slice a n c] w9 := E8.out.1.x.grown g9 (fun q => by injection q with q; omega)
      refine hK.out _ _ X9 (fun hH => ?_)
      try simp only [Act.put, List.setIfInBounds_toArray, List.set_cons_zero, List.set_cons_succ]
      refine wpAnyH_take (i := 17) (oi := { dst := some 9, op := Op.assign (Operand.tmp 209), type := 4, pos := "law.go:197", after := #[{ on := 13, ground := Ground.data }, { on := 16, ground := Ground.chain }, { on := 0, ground := Ground.phase }, { on := 1, ground := Ground.phase }, { on := 2, ground := Ground.phase }, { on := 3, ground := Ground.phase }, { on := 4, ground := Ground.phase }, { on := 5, ground := Ground.phase }, { on := 6, ground := Ground.phase }, { on := 7, ground := Ground.phase }, { on := 8, ground := Ground.phase }, { on := 9, ground := Ground.phase }, { on := 10, ground := Ground.phase }, { on := 11, ground := Ground.phase }, { on := 12, ground := Ground.phase }, { on := 13, ground := Ground.phase }, { on := 14, ground := Ground.textOnly Departure.lateStores }, { on := 15, ground := Ground.textOnly Departure.lateStores }, { on := 16, ground := Ground.phase }], guard := none }) (v := .bool true) rfl (by kernel_rfl) (by kernel_rfl) (by kernel_rfl) (fun _ _ _ h => h) (Or.inl ⟨by rfl, fun w' hs => by go_simp⟩) hH ?_
      try simp only [Act.put, List.setIfInBounds_toArray, List.set_cons_zero, List.set_cons_succ]
      refine wpAnyH_ready (rs := [18]) (by kernel_rfl) (by simp) ?_
      refine AllReadyH.cons (o := { dst := none, op := Op.store 45 (Operand.tmp 10) (Operand.tmp 211), type := 0, pos := "law.go:197", after := #[{ on := 15, ground := Ground.data }, { on := 17, ground := Ground.chain }, { on := 0, ground := Ground.phase }, { on := 1, ground := Ground.phase }, { on := 2, ground := Ground.phase }, { on := 3, ground := Ground.phase }, { on := 4, ground := Ground.phase }, { on := 5, ground := Ground.phase }, { on := 6, ground := Ground.phase }, { on := 7, ground := Ground.phase }, { on := 8, ground := Ground.phase }, { on := 9, ground := Ground.phase }, { on := 10, ground := Ground.phase }, { on := 11, ground := Ground.phase }, { on := 12, ground := Ground.phase }, { on := 13, ground := Ground.phase }, { on := 14, ground := Ground.phase }, { on := 15, ground := Ground.phase }, { on := 16, ground := Ground.phase }, { on := 17, ground := Ground.phase }], guard := none }) rfl (fun Kx hK => ?_) AllReadyH.nil
      refine op_putO (zs := [.slice none 0 0, .slice none 0 0]) [.slice va vm vc, .slice none 0 0] rfl sizeOu (two_one _ _ rfl rfl) rfl _ _ rfl (Q + 4) rfl rfl (E8.out.1.z.grown g9 (fun q => by injection q with q; omega)) ?_
      intro w10 nb10 g10
      refine hK.out _ _ (X9.grown g10 (fun q => by injection q with q; omega)) (fun hH => ?_)
      try simp only [Act.put, List.setIfInBounds_toArray, List.set_cons_zero, List.set_cons_succ]
      refine wpAnyH_done (by kernel_rfl) ?_ _
      clear hH hK
      go_wp2_with fail
      refine ret_ctc rfl rfl (Q + 3) 39 [.pointer (some ⟨R, 0, none⟩), .slice a n c] _ rfl (nb9.grown g10 (fun q => by injection q with q; omega)) Try.underlying39 rfl sizePr (Q + 4) 45 [.slice va vm vc, .slice none 0 0] _ rfl nb10 Try.underlying45 rfl sizeOu ?_
      exact FIN9.out w7 w8 w9 w10 E7.out E8.out g9 g10
end Go.Proofs.Yteppdlaoeoeplaa
