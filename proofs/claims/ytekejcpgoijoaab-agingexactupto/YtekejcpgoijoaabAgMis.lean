/-
  Ours: the walk of AgingMisses.
-/
import Derived.Test.YtekejcpgoijoaabAgNew
namespace Go.Proofs.Ytekejcpgoijoaab
open Go.RowKit LedM AgM

theorem Row.blk {e : TypeId} {base : Nat} {w : World} {v : Value} {xs : List Int} (h : Row e base w v xs) {a : Addr} {n c : Nat} (hv : v = .slice (some a) n c) : base ≤ a.block ∧ a.block < w.heap.size := by
  subst hv
  have hlt := fun g hg => World.ownsRow.lt h g hg
  rcases h.2 with ⟨hv, _⟩ | ⟨g, cap, cur, hv, _⟩
  · cases hv
  · injection hv with e1 _ _
    injection e1 with e1
    subst e1
    exact hlt g rfl
abbrev zI : Ins := ⟨-901, 0, 0, false⟩
/-- What the statement keeps: the position, the longer plan, the rows' copy. -/
structure MisS (w : World) (A R : Int) (G cap n : Nat) (l : List Ins) (vn : Value) (rows : List Int) (w' : World) : Prop where
  bb : Below w.heap.size w w'
  ps : Blk w.heap.size 24 [.int .i64 A, .int .i64 R] w'
  fl : RowP w.heap.size w' (.slice (some ⟨G, 0, none⟩) (n + 1) cap) (l ++ [zI])
  nm : Row 3 w.heap.size w' vn rows
theorem MisS.call {w w1 w2 : World} {A R : Int} {G cap n : Nat} {l : List Ins} {vn : Value} {rows : List Int} (h : MisS w A R G cap n l vn rows w1) (b : Below w1.heap.size w1 w2) : MisS w A R G cap n l vn rows w2 :=
  ⟨below_trans h.bb b, h.ps.below b, h.fl.later b, h.nm.later b⟩
theorem MisS.giv {w w1 : World} {A R : Int} {G cap n : Nat} {l : List Ins} {vn : Value} {rows : List Int} (h : MisS w A R G cap n l vn rows w1) (hl : l.length = n) : RdP w1 (.slice (some ⟨G, 0, none⟩) n cap) l := by
  have := RdP.take h.fl.rd (k := n) (by omega)
  subst hl
  rwa [List.take_left' rfl] at this

set_option maxRecDepth 20000 in
set_option maxHeartbeats 4000000 in
theorem misses_any (l : List Ins) (A R t k : Int) (rows : List Int) (v vr : Value) (w : World) (ok : ∀ x ∈ l, InsOk x) (hA : i64 A) (ht : i64 t) (h : RdP w v l) (hq : Rd w vr (rows.map (Value.int .i64))) :
    Calls Try.prog 4 #[v, .agg #[.int .i64 A, .int .i64 R], .int .i64 t, .int .i64 k, vr] w fun e w' => e = .returned (.bool true) ∧ Below w.heap.size w w' := by
  obtain ⟨i0, hi, hz0, hz1, hz2⟩ := info_parts Try.info3
  have BC : Hid (Below w.heap.size w (w.alloc (.cells #[.int .i64 A, .int .i64 R] 24)) ∧ Blk w.heap.size 24 [.int .i64 A, .int .i64 R] (w.alloc (.cells #[.int .i64 A, .int .i64 R] 24))) := ⟨below_alloc w _, Blk.new 24 [.int .i64 A, .int .i64 R] w⟩
  have hq' : Reads w vr rows := Rd.reads hq
  have h' := h
  have hq2 := hq
  obtain ⟨ao, cap0, rfl, -, -, -⟩ := h
  obtain ⟨ar, capr, rfl, -, -, -⟩ := hq2
  rw [List.length_map] at *
  by_cases c1 : l.length ≤ 400
  case neg =>
    clear h' hq hq' ok
    generalize l.length = L at *
    have q : (400 : Int) < (L : Int) := by omega
    go_enter Try.func4, Try.ntmps4
    go_wp2_with fail
    go_ret
    exact ⟨rfl, BC.out.1⟩
  by_cases c2 : rows.length ≤ 400
  case neg =>
    clear h' hq hq' ok
    generalize l.length = L at *
    generalize rows.length = N at *
    have q : ¬ (400 : Int) < (L : Int) := by omega
    have q' : (400 : Int) < (N : Int) := by omega
    go_enter Try.func4, Try.ntmps4
    go_wp2_with fail
    go_ret
    exact ⟨rfl, BC.out.1⟩
  obtain ⟨n, hn⟩ := SatF.ex (sP l) A R
  have CP : Hid (∀ w', Below w.heap.size w w' → Calls Try.prog 6 #[.slice ao l.length cap0] w' fun e w2 => ∃ v', e = .returned v' ∧ RowP w'.heap.size w2 v' l ∧ Below w'.heap.size w' w2) := fun w' hb => copied_at l _ w' (by omega) (h'.later hb)
  have MI : Hid (∀ v' w', RdP w' v' l → Calls Try.prog 11 #[v', .agg #[.int .i64 A, .int .i64 R], .int .i64 t, .int .i64 k] w' fun e w2 => ∃ v2, e = .returned v2 ∧ Row 3 w'.heap.size w2 v2 (mssL l n t k) ∧ Below w'.heap.size w' w2) := fun v' w' hr => miss_at l A R t k n v' w' (by omega) ok hA ht hn hr
  have RMI : Hid (∀ v' w', RdP w' v' l → Calls Try.prog 10 #[v', .agg #[.int .i64 A, .int .i64 R], .int .i64 t, .int .i64 k] w' fun e w2 => ∃ v2, e = .returned v2 ∧ Row 3 w'.heap.size w2 v2 (mssL l n t k) ∧ Below w'.heap.size w' w2) := fun v' w' hr => rmiss_at l A R t k n v' w' (by omega) ok hA ht hn hr
  have hms : (mssL l n t k).length ≤ 400 := by
    unfold mssL nI; rw [List.length_map]
    have := msN_len (sP l) n t k (sP l).length
    have := sP_len l
    omega
  have SR : Hid (∀ xs va vb w', xs.length ≤ 400 → Reads w' va xs → Reads w' vb xs → Calls Try.prog 12 #[va, vb] w' fun e w2 => e = .returned (.bool true) ∧ Below w'.heap.size w' w2) := fun xs va vb w' hx h1 h2 => (sameR_yes xs va vb w' (by omega) h1 h2).mono fun e w2 ⟨he, m, hw⟩ => ⟨he, by rw [hw]; exact below_drewN (Below.refl _ _) m⟩
  have SPL : Hid (∀ va vb w', RdP w' va l → RdP w' vb l → Calls Try.prog 9 #[va, vb] w' fun e w2 => e = .returned (.bool true) ∧ Below w'.heap.size w' w2) := fun va vb w' h1 h2 => (sameP_yes l va vb w' (by omega) h1 h2).mono fun e w2 ⟨he, m, hw⟩ => ⟨he, by rw [hw]; exact below_drewN (Below.refl _ _) m⟩
  have RMA : Hid (∀ w', Below w.heap.size w w' → Calls Try.prog 15 #[.slice ao l.length cap0, .slice ar rows.length capr] w' fun e w2 => ∃ v2, e = .returned v2 ∧ RowP w'.heap.size w2 v2 (mkL l rows) ∧ Below w'.heap.size w' w2) := fun w' hb => rmark_at l rows _ _ w' (by omega) (by omega) (h'.later hb) (hq'.later hb)
  have MR : Hid (∀ v1 v2 v3 w', RdP w' v1 l → Reads w' v2 rows → RdP w' v3 (mkL l rows) → Calls Try.prog 14 #[v1, v2, v3] w' fun e w2 => e = .returned (.bool true) ∧ Below w'.heap.size w' w2) := fun v1 v2 v3 w' r1 r2 r3 => marks_at l rows v1 v2 v3 w' c1 c2 r1 r2 r3
  have AN : Hid (∀ w', Below w.heap.size w w' → Calls Try.prog 16 #[.slice ao l.length cap0, .agg #[.int .i64 A, .int .i64 R], .int .i64 t, .int .i64 k, .slice ar rows.length capr] w' fun e w2 => e = .returned (.bool true) ∧ Below w'.heap.size w' w2) := fun w' hb => anew_at l A R t k rows _ _ w' c1 c2 ok hA ht (h'.later hb) (hq'.later hb)
  have RD : Hid (∀ w', Below w.heap.size w w' → RdP w' (.slice ao l.length cap0) l ∧ Reads w' (.slice ar rows.length capr) rows ∧ Rd w' (.slice ar rows.length capr) (rows.map (Value.int .i64))) := fun w' hb => ⟨h'.later hb, hq'.later hb, hq.later hb⟩
  have AL : Hid (∀ b1 v1 v2 v3 w', Row 3 b1 w' v1 (mssL l n t k) → Reads w' v2 (mssL l n t k) → Reads w' v3 (mssL l n t k) → b1 ≤ w'.heap.size → (∀ g, v1.ownBlock = some g → (∀ a n c, v2 = .slice (some a) n c → 0 < n → a.block ≠ g) ∧ (∀ a n c, v3 = .slice (some a) n c → 0 < n → a.block ≠ g)) → Calls Try.prog 13 #[v1, v2, v3] w' fun e w2 => e = .returned (.bool true) ∧ Below b1 w' w2) := fun b1 v1 v2 v3 w' r1 r2 r3 hb h12 => alone_at _ b1 v1 v2 v3 w' (by omega) r1 r2 r3 hb h12
  clear h' hq hq' ok hn
  have HC2 : Hid (rows.length ≤ 400) := c2
  have HMS : Hid ((mssL l n t k).length ≤ 400) := hms
  clear hms
  generalize mssL l n t k = ms at *
  obtain ⟨L, hL⟩ : ∃ L, l.length = L := ⟨_, rfl⟩
  obtain ⟨N, hN⟩ : ∃ N, rows.length = N := ⟨_, rfl⟩
  have HL : Hid (l.length = L) := hL
  rw [hL] at CP RMA AN RD c1 ⊢
  rw [hN] at RMA AN RD c2 ⊢
  have HN : Hid (rows.length = N) := hN
  clear hL hN
  have q : ¬ (400 : Int) < (L : Int) := by omega
  have q' : ¬ (400 : Int) < (N : Int) := by omega
  go_enter Try.func4, Try.ntmps4
  go_wp2_with fail
  refine (CP.out _ BC.out.1).mono ?_
  rintro e w2 ⟨v2, rfl, r2, b2⟩
  have B2 : Hid (RowP w.heap.size w2 v2 l ∧ Below w.heap.size w w2 ∧ Blk w.heap.size 24 [.int .i64 A, .int .i64 R] w2 ∧ ∀ g, v2.ownBlock = some g → g ≠ w.heap.size) := ⟨r2.mono (by simp), below_trans BC.out.1 b2, BC.out.2.below b2, fun g hg => by have := r2.ge hg; simp at this; omega⟩
  clear r2 b2 BC CP
  go_upto_region 5 with (at_builtin; refine wpList_catP rfl (.tmp 26) (.tmp 28) rfl w.heap.size _ _ l [zI] rfl (B2.out.1.later (below_alloc w2 _)) (Nat.le_trans B2.out.2.1.size (below_alloc w2 _).size) rfl (RdP.one w2 zI) (by rw [HL.out]; simp only [List.length_cons, List.length_nil]; omega) ?_; intro v3 w3 r3 g3; have S3 : Hid (RowP w.heap.size w3 v3 (l ++ [zI]) ∧ Below w.heap.size w w3 ∧ Blk w.heap.size 24 [.int .i64 A, .int .i64 R] w3) := ⟨r3, (below_trans B2.out.2.1 (below_alloc w2 _)).grown g3 (below_trans B2.out.2.1 (below_alloc w2 _)).size (fun b hb => B2.out.1.ge hb), (B2.out.2.2.1.old _).grown g3 (fun e => B2.out.2.2.2 _ e rfl)⟩; have X3 : ∃ g c, v3 = .slice (some ⟨g, 0, none⟩) (L + 1) c ∧ L ≤ c := (by obtain ⟨g, c, z, e, -, -, -, -⟩ := RowP.put r3 (k := L) (by rw [List.length_append, HL.out]; simp); rw [List.length_append, HL.out] at e; exact ⟨g, c, e, by obtain ⟨_, c', e', hc', _⟩ := r3.rd; rw [e] at e'; injection e' with _ _ e3; subst e3; rw [List.length_append, HL.out] at hc'; simp at hc'; omega⟩); clear r3 g3 B2; obtain ⟨G, cap, rfl, hcap⟩ := X3)
  go_upto_region 7 with (at_builtin; refine wpList_catV rfl (.tmp 34) (.tmp 35) 30 rfl 3 i0 (.int .i64 0) 8 Try.underlying30 hi hz0 hz1 hz2 rfl w.heap.size _ _ [] (rows.map (Value.int .i64)) (fun u hu => by obtain ⟨x, _, rfl⟩ := List.mem_map.1 hu; rfl) rfl (RowV.nil _ _ _) S3.out.2.1.size rfl (RD.out _ S3.out.2.1).2.2 (by rw [List.length_map, HN.out]; show 0 + N ≤ _; unfold maxLen; omega) (by rw [List.length_map, HN.out]; show (0 + N) * 8 ≤ _; omega) ?_; intro vn w4 rn g4; have gb := below_none g4; have S4 : Hid (MisS w A R G cap L l vn rows w4) := ⟨below_trans S3.out.2.1 gb, S3.out.2.2.below gb, S3.out.1.later gb, (by simpa [Row, RowV] using rn)⟩; clear rn g4 gb S3)
  have p0 := S4.out.ps.cell 0 _ rfl
  have p1 := S4.out.ps.cell 1 _ rfl
  go_wp2_with fail
  refine (RMI.out _ _ (RD.out _ S4.out.bb).1).mono ?_
  rintro e w5 ⟨vw, rfl, rw5, b5⟩
  have S5 : Hid (MisS w A R G cap L l vn rows w5 ∧ Row 3 w4.heap.size w5 vw ms) := ⟨S4.out.call b5, rw5⟩
  clear b5 rw5 S4 p0 p1
  have p0 := S5.out.1.ps.cell 0 _ rfl
  have p1 := S5.out.1.ps.cell 1 _ rfl
  go_wp2_with fail
  refine (MI.out _ _ (S5.out.1.giv HL.out)).mono ?_
  rintro e w6 ⟨v6, rfl, r6, b6⟩
  have S6 : Hid (MisS w A R G cap L l vn rows w6 ∧ Row 3 w4.heap.size w6 vw ms ∧ Row 3 w5.heap.size w6 v6 ms ∧ Below w5.heap.size w5 w6) := ⟨S5.out.1.call b6, S5.out.2.later b6, r6, b6⟩
  clear b6 r6 p0 p1
  have p0 := S6.out.1.ps.cell 0 _ rfl
  have p1 := S6.out.1.ps.cell 1 _ rfl
  go_wp2_with fail
  refine (MI.out _ _ (S6.out.1.giv HL.out)).mono ?_
  rintro e w7 ⟨v7, rfl, r7, b7⟩
  have AP : Hid (∀ g, v6.ownBlock = some g → (∀ a n c, v7 = .slice (some a) n c → 0 < n → a.block ≠ g) ∧ (∀ a n c, vw = .slice (some a) n c → 0 < n → a.block ≠ g)) := fun g hg => by
    have l6 := World.ownsRow.lt S6.out.2.2.1 g hg
    refine ⟨fun a n c e _ => ?_, fun a n c e _ => ?_⟩
    · have := r7.blk e; omega
    · have := S5.out.2.blk e; omega
  have S7 : Hid (Row 3 w4.heap.size w7 vw ms ∧ Row 3 w5.heap.size w7 v6 ms ∧ Row 3 w6.heap.size w7 v7 ms ∧ Below w5.heap.size w5 w7) := ⟨S6.out.2.1.later b7, S6.out.2.2.1.later b7, r7, below_trans S6.out.2.2.2 b7⟩
  clear b7 r7 p0 p1 S6
  go_wp2_with fail
  refine (SR.out ms _ _ _ HMS.out S7.out.2.1.reads S7.out.1.reads).mono ?_
  rintro e w8 ⟨rfl, b8⟩
  have S8 : Hid (Row 3 w4.heap.size w8 vw ms ∧ Row 3 w5.heap.size w8 v6 ms ∧ Row 3 w6.heap.size w8 v7 ms ∧ Below w5.heap.size w5 w8) := ⟨S7.out.1.later b8, S7.out.2.1.later b8, S7.out.2.2.1.later b8, below_trans S7.out.2.2.2 b8⟩
  clear b8 S7
  go_wp2_with fail
  refine (SR.out ms _ _ _ HMS.out S8.out.2.2.1.reads S8.out.1.reads).mono ?_
  rintro e w9 ⟨rfl, b9⟩
  have S9 : Hid (Row 3 w4.heap.size w9 vw ms ∧ Row 3 w5.heap.size w9 v6 ms ∧ Row 3 w6.heap.size w9 v7 ms ∧ Below w5.heap.size w5 w9) := ⟨S8.out.1.later b9, S8.out.2.1.later b9, S8.out.2.2.1.later b9, below_trans S8.out.2.2.2 b9⟩
  clear b9 S8
  go_wp2_with fail
  refine (AL.out _ _ _ _ _ S9.out.2.1 S9.out.2.2.1.reads S9.out.1.reads S9.out.2.2.2.size AP.out).mono ?_
  rintro e w10 ⟨rfl, b10⟩
  have S10 : Hid (MisS w A R G cap L l vn rows w10) := S5.out.1.call (S9.out.2.2.2.trans b10)
  clear b10 S9 S5 AP
  go_wp2_with fail
  refine (RMA.out _ S10.out.bb).mono ?_
  rintro e w11 ⟨v11, rfl, r11, b11⟩
  have S11 : Hid (MisS w A R G cap L l vn rows w11 ∧ RdP w11 v11 (mkL l rows)) := ⟨S10.out.call b11, r11.rd⟩
  clear r11 b11 S10
  go_wp2_with fail
  refine (MR.out _ _ _ _ (S11.out.1.giv HL.out) S11.out.1.nm.reads S11.out.2).mono ?_
  rintro e w12 ⟨rfl, b12⟩
  have S12 : Hid (MisS w A R G cap L l vn rows w12) := S11.out.1.call b12
  clear b12 S11
  go_wp2_with fail
  refine (SPL.out _ _ _ (S12.out.giv HL.out) (RD.out _ S12.out.bb).1).mono ?_
  rintro e w13 ⟨rfl, b13⟩
  have S13 : Hid (MisS w A R G cap L l vn rows w13) := S12.out.call b13
  clear b13 S12
  go_wp2_with fail
  refine (SR.out rows _ _ _ HC2.out S13.out.nm.reads (RD.out _ S13.out.bb).2.1).mono ?_
  rintro e w14 ⟨rfl, b14⟩
  have S14 : Hid (MisS w A R G cap L l vn rows w14) := S13.out.call b14
  clear b14 S13
  have p0 := S14.out.ps.cell 0 _ rfl
  have p1 := S14.out.ps.cell 1 _ rfl
  have cz : w14.cell? ⟨G, L * 4, none⟩ = some (.int .i64 (-901)) := by
    obtain ⟨ao', c', e', _, _, H⟩ := S14.out.fl.rd
    injection e' with e1 _ _
    subst e1
    obtain ⟨g', o', e2, _, r⟩ := H L (by rw [List.length_append, HL.out]; simp)
    cases e2
    have : iN (l ++ [zI]) L = zI := by
      rw [← HL.out, iN_at (by simp)]; simp
    rw [this, Nat.zero_add] at r
    exact r 0 _ rfl
  have ql : (L : Int) < (L : Int) + 1 := by omega
  go_wp2_with fail
  refine (AN.out _ S14.out.bb).mono ?_
  rintro e w15 ⟨rfl, b15⟩
  have S15 : Hid (Below w.heap.size w w15) := below_trans S14.out.bb b15
  clear b15 S14
  go_wp2_with fail
  go_ret
  exact ⟨rfl, S15.out⟩
end Go.Proofs.Ytekejcpgoijoaab
