/-
  Ours: the document's work sheet: copied, fail, begin, wrong, move, posted, done (gen_lorw.py).
-/
import Derived.Test.YtgdmkcbbomfmdaaGreatDoorLoOp1
import Derived.Test.YtgdmkcbbomfmdaaGreatDoorLedRPst
import Derived.Test.YtgdmkcbbomfmdaaGreatDoorPolRf2
import Derived.Test.YtgdmkcbbomfmdaaGreatDoorLedCat
namespace Go.Proofs.YtgdmkcbbomfmdaaGreatDoor
open Go.RowKit LedM CoM LoM PolM

/-- What Open answers. -/
def OpAns (id k P r n s u : Int) (l hs : List Int) (w : World) (e : Ending) (w' : World) : Prop :=
  ∃ (L2 : Lo) (er : Int) (ex : List (Nat × TypeId × List Value)), e = .returned (.agg (ouL L2 [] (.slice none 0 0) er).toArray) ∧ Below w.heap.size w w' ∧
    ((er = 0 ∧ ev (chk l hs) = 0 ∧ opV id k P r n s u hs = 0 ∧ ∃ rs v, planO k P r n s u hs = some rs ∧ L2 = opnL id k P r n s u v ∧ PlX rs ex v ∧ ∀ q ∈ ex, w.heap.size ≤ q.1 ∧ Blk q.1 q.2.1 q.2.2 w') ∨
     (¬ er = 0 ∧ L2 = lo0 ∧ er = if ev (chk l hs) = 0 then opV id k P r n s u hs else ev (chk l hs)))
theorem lo0_build (w : World) : (Instr.build 37 #[]).run Tryz.prog w = .ok (.agg (lnL lo0).toArray) w := by kernel_rfl
set_option maxRecDepth 20000 in
set_option maxHeartbeats 4000000 in
theorem lopen_at {l hs : List Int} {a : Option Addr} {n0 c : Nat} (hl : l.length = 17) (id k P r n s u : Int) (w : World) (hP : i64 P) (hb : hs.length ≤ 1152921504606846976) (hr : Rd w (.slice a n0 c) (bkL hs)) (hT : TabD w) (hA : TabA w) (hL : TabL w) :
    Calls Tryz.prog 5 #[.agg (polL l (.slice a n0 c)).toArray, .int .i64 id, .agg #[.int .i64 k, .int .i64 P, .int .i64 r, .int .i64 n, .int .i64 s, .int .i64 u]] w (OpAns id k P r n s u l hs w) := by
  have hX : (polL l (.slice a n0 c)).length = 18 := polL_len hl
  have S4 : Hid (KD w [(w.heap.size, 24, polL l (.slice a n0 c)), (w.heap.size + 1, 3, [.int .i64 id]), (w.heap.size + 1 + 1, 26, [.int .i64 k, .int .i64 P, .int .i64 r, .int .i64 n, .int .i64 s, .int .i64 u]), (w.heap.size + 1 + 1 + 1, 41, ouL lo0 [] (.slice none 0 0) 0)] ((((w.alloc (.cells (polL l (.slice a n0 c)).toArray 24)).alloc (.cells #[.int .i64 id] 3)).alloc (.cells #[.int .i64 k, .int .i64 P, .int .i64 r, .int .i64 n, .int .i64 s, .int .i64 u] 26)).alloc (.cells #[.int .i64 0, .int .i64 0, .int .i64 0, .int .i64 0, .int .i64 0, .int .i64 0, .int .i64 0, .slice none 0 0, .int .i64 0, .int .i64 0, .int .i64 0, .int .i64 0, .int .i64 0, .int .i64 0, .int .i64 0, .int .i64 0, .int .i64 0, .int .i64 0, .int .i64 0, .int .i64 0, .int .i64 0, .bool false, .int .i64 0, .int .i64 0, .int .i64 0, .int .i64 0, .int .i64 0, .int .i64 0, .int .i64 0, .int .i64 0, .int .i64 0, .int .i64 0, .int .i64 0, .int .i64 0, .int .i64 0, .int .i64 0, .int .i64 0, .int .i64 0, .int .i64 0, .int .i64 0, .int .i64 0, .int .i64 0, .int .i64 0, .bool false, .int .i64 0, .int .i64 0, .int .i64 0, .int .i64 0, .int .i64 0, .int .i64 0, .int .i64 0, .slice none 0 0, .int .i64 0] 41))) := KD.four w _ _ _ _ (polL l (.slice a n0 c)) [.int .i64 id] [.int .i64 k, .int .i64 P, .int .i64 r, .int .i64 n, .int .i64 s, .int .i64 u] (ouL lo0 [] (.slice none 0 0) 0)
  have HFE : ∀ args w, Sem.run Tryz.prog (callFunc 10 args) w = .ok (.enter 10 args) w := enters_of Tryz.func10 (by kernel_rfl) rfl
  have AT : Hid (∀ w0, KD w [(w.heap.size, 24, polL l (.slice a n0 c)), (w.heap.size + 1, 3, [.int .i64 id]), (w.heap.size + 1 + 1, 26, [.int .i64 k, .int .i64 P, .int .i64 r, .int .i64 n, .int .i64 s, .int .i64 u]), (w.heap.size + 1 + 1 + 1, 41, ouL lo0 [] (.slice none 0 0) 0)] w0 → Calls Tryz.prog 9 #[.agg (polL l (.slice a n0 c)).toArray, .agg (lnL lo0).toArray, .func (.func 10) #[] #[.pointer (some ⟨w.heap.size + 1, 0, none⟩), .pointer (some ⟨w.heap.size + 1 + 1, 0, none⟩)]] w0 (AttAns w0 lo0 (ev (chk l hs)) PLnil (OpRT id k P r n s u hs) (fun q => opV id k P r n s u hs = q ∧ ¬ q = 0))) := fun w0 h0 =>
    attempt_at (polL l (.slice a n0 c)) lo0 10 #[.pointer (some ⟨w.heap.size + 1, 0, none⟩), .pointer (some ⟨w.heap.size + 1 + 1, 0, none⟩)] w0 (ev (chk l hs)) ((chk l hs : Nat) : Int) PLnil (OpRT id k P r n s u hs) (fun q => opV id k P r n s u hs = q ∧ ¬ q = 0) hX HFE
      (fun w' bs DB L1 ex hk _ _ _ => opWork_at hl (w.heap.size + 1) (w.heap.size + 1 + 1) id k P r n s u w0 hP (by omega) (hr.later h0.bb) (hT.later h0.bb) (hA.up h0.bb) (hL.up h0.bb) (h0.at 1 rfl) (h0.at 2 rfl) w' bs DB L1 hk)
      (fun w' bs hk => clone_kd hk)
      (fun w' hb' => check_kd hl (hr.later h0.bb) hb w' hb')
  have SX : Hid ((Tryz.prog.info? 24).map (·.size) = some (polL l (.slice a n0 c)).length) := by show _ = _; rw [hX]; kernel_rfl
  clear hr hT hA hL
  have hmf : ∀ (fn : Fn) (first cap : Array Value) (w : World), (Instr.makeFunc fn first cap).run Tryz.prog w = .ok (.func fn first cap) w := fun _ _ _ _ => rfl
  have lob := lo0_build
  go_enter Tryz.func5, Tryz.ntmps5
  go_upto_region 1 with fail
  generalize ((((w.alloc (.cells (polL l (.slice a n0 c)).toArray 24)).alloc (.cells #[.int .i64 id] 3)).alloc (.cells #[.int .i64 k, .int .i64 P, .int .i64 r, .int .i64 n, .int .i64 s, .int .i64 u] 26)).alloc (.cells #[.int .i64 0, .int .i64 0, .int .i64 0, .int .i64 0, .int .i64 0, .int .i64 0, .int .i64 0, .slice none 0 0, .int .i64 0, .int .i64 0, .int .i64 0, .int .i64 0, .int .i64 0, .int .i64 0, .int .i64 0, .int .i64 0, .int .i64 0, .int .i64 0, .int .i64 0, .int .i64 0, .int .i64 0, .bool false, .int .i64 0, .int .i64 0, .int .i64 0, .int .i64 0, .int .i64 0, .int .i64 0, .int .i64 0, .int .i64 0, .int .i64 0, .int .i64 0, .int .i64 0, .int .i64 0, .int .i64 0, .int .i64 0, .int .i64 0, .int .i64 0, .int .i64 0, .int .i64 0, .int .i64 0, .int .i64 0, .int .i64 0, .bool false, .int .i64 0, .int .i64 0, .int .i64 0, .int .i64 0, .int .i64 0, .int .i64 0, .int .i64 0, .slice none 0 0, .int .i64 0] 41)) = w0 at *
  have AC : Hid (Calls _ _ _ _ _) := AT.out w0 S4.out
  have RP : Hid (w0.rangeAt w.heap.size 0 (polL l (.slice a n0 c))) := (S4.out.at 0 rfl).all
  clear AT
  go_wp2_with (refine step_load rfl 24 _ rfl w.heap.size 0 rfl (polL l (.slice a n0 c)) _ RP.out Tryz.underlying24 rfl SX.out ?_)
  refine AC.out.mono ?_
  rintro e w1 ⟨L2, pa, na, nn, nc, er, bs, rfl, kd, hh⟩
  have S5 := S4.out.call kd.bb
  have z0 : w.heap.size + 1 + 1 + 1 < w0.heap.size := S4.out.lt 3 rfl
  have EX : ∀ (ex : List (Nat × TypeId × List Value)) w2, (∀ q ∈ ex, q ∈ bs) → w1.grownBy w2 (some (w.heap.size + 1 + 1 + 1)) → ∀ q ∈ ex, w.heap.size ≤ q.1 ∧ Blk q.1 q.2.1 q.2.2 w2 := fun ex w2 hx hg q hq => by
    obtain ⟨j, hj⟩ := List.getElem?_of_mem (hx q hq)
    have hb := kd.bk j q hj
    exact ⟨by omega, hb.2.grown hg (fun e => by have e := Option.some.inj e; omega)⟩
  have BE : ∀ w2, w1.grownBy w2 (some (w.heap.size + 1 + 1 + 1)) → Below w.heap.size w w2 := fun w2 hg => S5.bb.grown hg S5.bb.size (fun q e => by have e := Option.some.inj e; omega)
  have FIN : Hid (L2.pl.oneCell' = true ∧ ∀ w2, w1.grownBy w2 (some (w.heap.size + 1 + 1 + 1)) → OpAns id k P r n s u l hs w (.returned (.agg (ouL L2 pa (.slice na nn nc) er).toArray)) w2) := by
    rcases hh with ⟨he, hg0, L1, ex, ex2, _, _, ⟨o1, rfl, hnt, rs, v, e1, rfl, px⟩, hx⟩ | ⟨ex, hpl, hL2, rfl, hnt, _, hz⟩
    · rw [hnt]
      have hv : v.oneCell' = true := by
        rcases px with ⟨rfl, _, _⟩ | ⟨g, cap, cs, rfl, _⟩ <;> rfl
      exact ⟨hv, fun w2 hg => ⟨_, _, ex2, rfl, BE w2 hg, .inl ⟨he, hg0, o1, rs, v, e1, rfl, px, EX ex2 w2 (fun q hq => hx q (List.mem_append_right _ hq)) hg⟩⟩⟩
    · rw [hnt]
      have hp : L2.pl = .slice none 0 0 := hpl.2
      have hL : L2 = lo0 := by rw [hL2, hp]; rfl
      subst hL
      refine ⟨rfl, fun w2 hg => ⟨lo0, er, [], rfl, BE w2 hg, .inr ?_⟩⟩
      rcases hz with ⟨h1, h2⟩ | ⟨h1, h2, h3⟩
      · exact ⟨by rw [h2]; exact h1, rfl, by rw [if_neg h1]; exact h2⟩
      · exact ⟨h3, rfl, by rw [if_pos h1]; exact h2.symm⟩
  have OB : Hid (Blk (w.heap.size + 1 + 1 + 1) 41 (ouL lo0 [] (.slice none 0 0) 0) w1) := S5.at 3 rfl
  clear S4 S5 z0 EX BE AC RP SX kd hh HFE
  go_wp2_with (refine step_store rfl 41 _ _ rfl (w.heap.size + 1 + 1 + 1) 0 41 (ouL lo0 [] (.slice none 0 0) 0) (ouL L2 pa (.slice na nn nc) er) rfl rfl OB.out (by rw [ouL_len, ouL_len]; exact Nat.le_refl _) (sizeOu _ _ _ _) (ouL_one FIN.out.1 rfl) ?_; intro w2 nb2 g2; rw [store_all (by rw [ouL_len, ouL_len])] at nb2)
  refine ret_blk rfl rfl (w.heap.size + 1 + 1 + 1) 41 (ouL L2 pa (.slice na nn nc) er) _ rfl nb2 Tryz.underlying41 rfl (sizeOu _ _ _ _) ?_
  exact FIN.out.2 w2 g2
end Go.Proofs.YtgdmkcbbomfmdaaGreatDoor

namespace Go.Proofs.YtgdmkcbbomfmdaaGreatDoor
open Go.RowKit LedM CoM LoM PolM

/-- A work sheet's 71 cells. -/
def wkL (X : List Value) (L : Lo) (pa : List Int) (nt : Value) (er : Int) : List Value := X ++ (lnL L ++ (i5 pa ++ [nt, .int .i64 er]))
def zX : List Value := [.int .i64 0, .int .i64 0, .int .i64 0, .int .i64 0, .int .i64 0, .int .i64 0, .int .i64 0, .int .i64 0, .int .i64 0, .int .i64 0, .int .i64 0, .int .i64 0, .int .i64 0, .int .i64 0, .int .i64 0, .int .i64 0, .int .i64 0, .slice none 0 0]
theorem wk_len {X : List Value} (hX : X.length = 18) (L : Lo) (pa : List Int) (nt : Value) (er : Int) : (wkL X L pa nt er).length = 71 := by
  unfold wkL; rw [List.length_append, hX]; rfl
theorem wk_at {X : List Value} (hX : X.length = 18) (L : Lo) (pa : List Int) (nt : Value) (er : Int) (i : Nat) : (wkL X L pa nt er)[18 + i]? = (lnL L ++ (i5 pa ++ [nt, .int .i64 er]))[i]? := by
  unfold wkL; rw [List.getElem?_append_right (by omega), hX]; congr 1; omega
theorem wk_err {X : List Value} (hX : X.length = 18) (L : Lo) (pa : List Int) (nt : Value) (er : Int) : (wkL X L pa nt er)[70]? = some (.int .i64 er) := wk_at hX L pa nt er 52
theorem wk_set {X : List Value} (hX : X.length = 18) (L : Lo) (pa : List Int) (nt : Value) (er k : Int) : (wkL X L pa nt er).set 70 (.int .i64 k) = wkL X L pa nt k := by
  unfold wkL
  rw [List.set_append_right _ _ (by omega), hX]
  rfl
theorem wk_one {X : List Value} {L : Lo} {pa : List Int} {nt : Value} {er : Int} (hXo : ∀ v ∈ X, v.oneCell' = true) (hp : L.pl.oneCell' = true) (hn : nt.oneCell' = true) : ∀ v ∈ wkL X L pa nt er, v.oneCell' = true := fun v hv => by
  rcases List.mem_append.1 hv with h | h
  · exact hXo v h
  · exact ouL_one hp hn v h
theorem wk_size {X : List Value} (hX : X.length = 18) (L : Lo) (pa : List Int) (nt : Value) (er : Int) : (Tryz.prog.info? 54).map (·.size) = some (wkL X L pa nt er).length := by rw [wk_len hX]; kernel_rfl
def zW : List Value := [.int .i64 0, .int .i64 0, .int .i64 0, .int .i64 0, .int .i64 0, .int .i64 0, .int .i64 0, .int .i64 0, .int .i64 0, .int .i64 0, .int .i64 0, .int .i64 0, .int .i64 0, .int .i64 0, .int .i64 0, .int .i64 0, .int .i64 0, .slice none 0 0, .int .i64 0, .int .i64 0, .int .i64 0, .int .i64 0, .int .i64 0, .int .i64 0, .int .i64 0, .slice none 0 0, .int .i64 0, .int .i64 0, .int .i64 0, .int .i64 0, .int .i64 0, .int .i64 0, .int .i64 0, .int .i64 0, .int .i64 0, .int .i64 0, .int .i64 0, .int .i64 0, .int .i64 0, .bool false, .int .i64 0, .int .i64 0, .int .i64 0, .int .i64 0, .int .i64 0, .int .i64 0, .int .i64 0, .int .i64 0, .int .i64 0, .int .i64 0, .int .i64 0, .int .i64 0, .int .i64 0, .int .i64 0, .int .i64 0, .int .i64 0, .int .i64 0, .int .i64 0, .int .i64 0, .int .i64 0, .int .i64 0, .bool false, .int .i64 0, .int .i64 0, .int .i64 0, .int .i64 0, .int .i64 0, .int .i64 0, .int .i64 0, .slice none 0 0, .int .i64 0]
def zL : List Value := [.int .i64 0, .int .i64 0, .int .i64 0, .int .i64 0, .int .i64 0, .int .i64 0, .int .i64 0, .slice none 0 0, .int .i64 0, .int .i64 0, .int .i64 0, .int .i64 0, .int .i64 0, .int .i64 0, .int .i64 0, .int .i64 0, .int .i64 0, .int .i64 0, .int .i64 0, .int .i64 0, .int .i64 0, .bool false, .int .i64 0, .int .i64 0, .int .i64 0, .int .i64 0, .int .i64 0, .int .i64 0, .int .i64 0, .int .i64 0, .int .i64 0, .int .i64 0, .int .i64 0, .int .i64 0, .int .i64 0, .int .i64 0, .int .i64 0, .int .i64 0, .int .i64 0, .int .i64 0, .int .i64 0, .int .i64 0, .int .i64 0, .bool false, .int .i64 0, .int .i64 0]
def zO : List Value := [.int .i64 0, .int .i64 0, .int .i64 0, .int .i64 0, .int .i64 0, .int .i64 0, .int .i64 0, .slice none 0 0, .int .i64 0, .int .i64 0, .int .i64 0, .int .i64 0, .int .i64 0, .int .i64 0, .int .i64 0, .int .i64 0, .int .i64 0, .int .i64 0, .int .i64 0, .int .i64 0, .int .i64 0, .bool false, .int .i64 0, .int .i64 0, .int .i64 0, .int .i64 0, .int .i64 0, .int .i64 0, .int .i64 0, .int .i64 0, .int .i64 0, .int .i64 0, .int .i64 0, .int .i64 0, .int .i64 0, .int .i64 0, .int .i64 0, .int .i64 0, .int .i64 0, .int .i64 0, .int .i64 0, .int .i64 0, .int .i64 0, .bool false, .int .i64 0, .int .i64 0, .int .i64 0, .int .i64 0, .int .i64 0, .int .i64 0, .int .i64 0, .slice none 0 0, .int .i64 0]
set_option maxRecDepth 20000 in
set_option maxHeartbeats 4000000 in
theorem rfail_at {X : List Value} (hX : X.length = 18) (hXo : ∀ v ∈ X, v.oneCell' = true) (L : Lo) (pa : List Int) (nt : Value) (er k : Int) (b : Bool) (w : World) (hp : L.pl.oneCell' = true) (hn : nt.oneCell' = true) :
    Calls Tryz.prog 14 #[.agg (wkL X L pa nt er).toArray, .bool b, .int .i64 k] w fun e w' => e = .returned (.agg (wkL X L pa nt (if er = 0 ∧ b = true then k else er)).toArray) ∧ Below w.heap.size w w' := by
  have S : Hid (KD w [(w.heap.size, 54, wkL X L pa nt er), (w.heap.size + 1, 54, zW)] ((w.alloc (.cells (wkL X L pa nt er).toArray 54)).alloc (.cells Tryz.zeroCells54 54))) := KD.two w _ _ (wkL X L pa nt er) zW
  have c70 := S.out.cell 0 70 rfl (.int .i64 er) (wk_err hX L pa nt er)
  have f70 := S.out.fz 0 70 rfl
  have OW : Hid (∀ er', ∀ v ∈ wkL X L pa nt er', v.oneCell' = true) := fun er' => wk_one hXo hp hn
  have SZ : Hid (∀ er', (Tryz.prog.info? 54).map (·.size) = some (wkL X L pa nt er').length) := fun er' => wk_size hX L pa nt er'
  have LZ : Hid (∀ er', (wkL X L pa nt er').length = 71) := fun er' => wk_len hX L pa nt er'
  have ST : Hid (KD w [(w.heap.size, 54, wkL X L pa nt k), (w.heap.size + 1, 54, zW)] (((w.alloc (.cells (wkL X L pa nt er).toArray 54)).alloc (.cells Tryz.zeroCells54 54)).setCell ⟨w.heap.size, 70, none⟩ (.int .i64 k))) := by
    have := S.out.set 0 70 rfl (.int .i64 k)
    rw [wk_set hX] at this
    exact this
  clear hXo hp hn
  obtain ⟨E, hE⟩ : ∃ E, (if er = 0 ∧ b = true then k else er) = E := ⟨_, rfl⟩
  rw [hE]
  have HE : Hid ((if er = 0 ∧ b = true then k else er) = E) := hE
  clear hE
  go_enter Tryz.func14, Tryz.ntmps14
  go_upto_region 1 with fail
  generalize ((w.alloc (.cells (wkL X L pa nt er).toArray 54)).alloc (.cells Tryz.zeroCells54 54)) = w0 at *
  by_cases h0 : er = 0
  · subst h0
    cases b with
    | true =>
      obtain rfl : k = E := by rw [← HE.out]; simp
      clear S HE
      go_wp2_with (first
        | (refine step_load rfl 54 _ rfl w.heap.size 0 rfl (wkL X L pa nt k) _ (ST.out.at 0 rfl).all Tryz.underlying54 rfl (SZ.out _) ?_)
        | (refine step_store rfl 54 _ _ rfl (w.heap.size + 1) 0 54 zW (wkL X L pa nt k) rfl rfl (ST.out.at 1 rfl) (by rw [LZ.out]; exact Nat.le_refl _) (SZ.out _) (OW.out _) ?_; intro w2 nb2 g2; rw [store_all (by rw [LZ.out]; rfl)] at nb2; have N2 : Hid (Blk (w.heap.size + 1) 54 (wkL X L pa nt k) w2 ∧ Below w.heap.size w w2) := ⟨nb2, ST.out.bb.grown g2 ST.out.bb.size (fun q e => by have e := Option.some.inj e; omega)⟩; clear nb2 g2))
      refine ret_blk rfl rfl (w.heap.size + 1) 54 (wkL X L pa nt k) _ rfl N2.out.1 Tryz.underlying54 rfl (SZ.out _) ?_
      exact ⟨rfl, N2.out.2⟩
    | false =>
      obtain rfl : E = 0 := by rw [← HE.out]; simp
      clear ST HE
      go_wp2_with (first
        | (refine step_load rfl 54 _ rfl w.heap.size 0 rfl (wkL X L pa nt 0) _ (S.out.at 0 rfl).all Tryz.underlying54 rfl (SZ.out _) ?_)
        | (refine step_store rfl 54 _ _ rfl (w.heap.size + 1) 0 54 zW (wkL X L pa nt 0) rfl rfl (S.out.at 1 rfl) (by rw [LZ.out]; exact Nat.le_refl _) (SZ.out _) (OW.out _) ?_; intro w2 nb2 g2; rw [store_all (by rw [LZ.out]; rfl)] at nb2; have N2 : Hid (Blk (w.heap.size + 1) 54 (wkL X L pa nt 0) w2 ∧ Below w.heap.size w w2) := ⟨nb2, S.out.bb.grown g2 S.out.bb.size (fun q e => by have e := Option.some.inj e; omega)⟩; clear nb2 g2))
      refine ret_blk rfl rfl (w.heap.size + 1) 54 (wkL X L pa nt 0) _ rfl N2.out.1 Tryz.underlying54 rfl (SZ.out _) ?_
      exact ⟨rfl, N2.out.2⟩
  · obtain rfl : er = E := by rw [← HE.out, if_neg (fun h => h0 h.1)]
    clear HE
    have h1 : (er == 0) = false := by simp; exact h0
    clear ST
    go_wp2_with (first
      | (refine step_load rfl 54 _ rfl w.heap.size 0 rfl (wkL X L pa nt er) _ (S.out.at 0 rfl).all Tryz.underlying54 rfl (SZ.out _) ?_)
      | (refine step_store rfl 54 _ _ rfl (w.heap.size + 1) 0 54 zW (wkL X L pa nt er) rfl rfl (S.out.at 1 rfl) (by rw [LZ.out]; exact Nat.le_refl _) (SZ.out _) (OW.out _) ?_; intro w2 nb2 g2; rw [store_all (by rw [LZ.out]; rfl)] at nb2; have N2 : Hid (Blk (w.heap.size + 1) 54 (wkL X L pa nt er) w2 ∧ Below w.heap.size w w2) := ⟨nb2, S.out.bb.grown g2 S.out.bb.size (fun q e => by have e := Option.some.inj e; omega)⟩; clear nb2 g2))
    refine ret_blk rfl rfl (w.heap.size + 1) 54 (wkL X L pa nt er) _ rfl N2.out.1 Tryz.underlying54 rfl (SZ.out _) ?_
    exact ⟨rfl, N2.out.2⟩
set_option maxRecDepth 20000 in
set_option maxHeartbeats 4000000 in
/-- copied, of a loan without a plan. -/
theorem rcopied_nil (L : Lo) (w : World) (hp : L.pl = .slice none 0 0) : Calls Tryz.prog 34 #[.agg (lnL L).toArray] w fun e w' => e = .returned (.agg (lnL L).toArray) ∧ Below w.heap.size w w' := by
  have S : Hid (KD w [(w.heap.size, 37, lnL L), (w.heap.size + 1, 37, zL)] ((w.alloc (.cells (lnL L).toArray 37)).alloc (.cells #[.int .i64 0, .int .i64 0, .int .i64 0, .int .i64 0, .int .i64 0, .int .i64 0, .int .i64 0, .slice none 0 0, .int .i64 0, .int .i64 0, .int .i64 0, .int .i64 0, .int .i64 0, .int .i64 0, .int .i64 0, .int .i64 0, .int .i64 0, .int .i64 0, .int .i64 0, .int .i64 0, .int .i64 0, .bool false, .int .i64 0, .int .i64 0, .int .i64 0, .int .i64 0, .int .i64 0, .int .i64 0, .int .i64 0, .int .i64 0, .int .i64 0, .int .i64 0, .int .i64 0, .int .i64 0, .int .i64 0, .int .i64 0, .int .i64 0, .int .i64 0, .int .i64 0, .int .i64 0, .int .i64 0, .int .i64 0, .int .i64 0, .bool false, .int .i64 0, .int .i64 0] 37))) := KD.two w _ _ (lnL L) zL
  have c7 := S.out.cell 0 7 rfl (.slice none 0 0) (by rw [← hp]; rfl)
  have f7 := S.out.fz 0 7 rfl
  have ST : Hid (KD w [(w.heap.size, 37, lnL L), (w.heap.size + 1, 37, zL)] (((w.alloc (.cells (lnL L).toArray 37)).alloc (.cells #[.int .i64 0, .int .i64 0, .int .i64 0, .int .i64 0, .int .i64 0, .int .i64 0, .int .i64 0, .slice none 0 0, .int .i64 0, .int .i64 0, .int .i64 0, .int .i64 0, .int .i64 0, .int .i64 0, .int .i64 0, .int .i64 0, .int .i64 0, .int .i64 0, .int .i64 0, .int .i64 0, .int .i64 0, .bool false, .int .i64 0, .int .i64 0, .int .i64 0, .int .i64 0, .int .i64 0, .int .i64 0, .int .i64 0, .int .i64 0, .int .i64 0, .int .i64 0, .int .i64 0, .int .i64 0, .int .i64 0, .int .i64 0, .int .i64 0, .int .i64 0, .int .i64 0, .int .i64 0, .int .i64 0, .int .i64 0, .int .i64 0, .bool false, .int .i64 0, .int .i64 0] 37)).setCell ⟨w.heap.size, 7, none⟩ (.slice none 0 0))) := by
    have := S.out.set 0 7 rfl (.slice none 0 0)
    have e : (lnL L).set 7 (.slice none 0 0) = lnL L := by rw [← hp]; rfl
    rw [e] at this
    exact this
  have OL : Hid (∀ v ∈ lnL L, v.oneCell' = true) := lnL_one (by rw [hp]; rfl)
  clear S hp
  go_enter Tryz.func34, Tryz.ntmps34
  go_upto_region 3 with fail
  generalize ((w.alloc (.cells (lnL L).toArray 37)).alloc (.cells #[.int .i64 0, .int .i64 0, .int .i64 0, .int .i64 0, .int .i64 0, .int .i64 0, .int .i64 0, .slice none 0 0, .int .i64 0, .int .i64 0, .int .i64 0, .int .i64 0, .int .i64 0, .int .i64 0, .int .i64 0, .int .i64 0, .int .i64 0, .int .i64 0, .int .i64 0, .int .i64 0, .int .i64 0, .bool false, .int .i64 0, .int .i64 0, .int .i64 0, .int .i64 0, .int .i64 0, .int .i64 0, .int .i64 0, .int .i64 0, .int .i64 0, .int .i64 0, .int .i64 0, .int .i64 0, .int .i64 0, .int .i64 0, .int .i64 0, .int .i64 0, .int .i64 0, .int .i64 0, .int .i64 0, .int .i64 0, .int .i64 0, .bool false, .int .i64 0, .int .i64 0] 37)) = w0 at *
  go_loopw [3, 4] (fun va vk wr => va = .slice none 0 0 ∧ vk = .int .i64 0 ∧ Hid (w0 = wr)) (fun _ _ _ => 0)
  case atStart => exact ⟨rfl, rfl, rfl⟩
  case round =>
    obtain ⟨rfl, rfl, hw⟩ := hrel
    obtain rfl := hw.out
    clear hw
    go_wp2_with (first
      | (refine step_load rfl 37 _ rfl w.heap.size 0 rfl (lnL L) _ (ST.out.at 0 rfl).all Tryz.underlying37 rfl (sizeLn _) ?_)
      | (refine step_store rfl 37 _ _ rfl (w.heap.size + 1) 0 37 zL (lnL L) rfl rfl (ST.out.at 1 rfl) (by rw [lnL_len]; decide) (sizeLn _) OL.out ?_; intro w2 nb2 g2; rw [store_all (by rw [lnL_len]; rfl)] at nb2; have N2 : Hid (Blk (w.heap.size + 1) 37 (lnL L) w2 ∧ Below w.heap.size w w2) := ⟨nb2, ST.out.bb.grown g2 ST.out.bb.size (fun q e => by have e := Option.some.inj e; omega)⟩; clear nb2 g2))
    refine ret_blk rfl rfl (w.heap.size + 1) 37 (lnL L) _ rfl N2.out.1 Tryz.underlying37 rfl (sizeLn _) ?_
    exact ⟨rfl, N2.out.2⟩
end Go.Proofs.YtgdmkcbbomfmdaaGreatDoor
