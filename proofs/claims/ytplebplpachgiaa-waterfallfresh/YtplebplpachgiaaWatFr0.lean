/-
  Ours: rows of entries apart from each other; what is laid behind a row.
-/
import Derived.Test.YtplebplpachgiaaWatUndo
import Derived.Test.YtplebplpachgiaaWatAlk
import Derived.Test.YtplebplpachgiaaFrmApp
namespace Go.Proofs.Ytplebplpachgiaa
open Go.RowKit LedM WatM

/-- A row whose block, if it has one, lies from 'lo' on and below 'hi'. -/
structure Rw (lo hi : Nat) (w : World) (v : Value) (es : List Ent) : Prop where
  row : RowE lo w v es
  top : ∀ g, v.ownBlock = some g → g < hi
theorem Rw.kept {lo hi : Nat} {w w' : World} {v : Value} {es : List Ent} {b : Option Nat} (h : Rw lo hi w v es) (g : w.grownBy w' b) (hb : ∀ k, b = some k → k < lo ∨ hi ≤ k) : Rw lo hi w' v es :=
  ⟨RowE.kept h.row g (fun k hk e => by have h1 := RowE.ge h.row hk; have h2 := h.top k hk; have := hb k e; omega), h.top⟩
theorem Rw.call {lo hi : Nat} {w w' : World} {v : Value} {es : List Ent} (h : Rw lo hi w v es) (b : Below w.heap.size w w') : Rw lo hi w' v es := ⟨RowE.later h.row b, h.top⟩
theorem RowE.short {base g n m cap : Nat} {w : World} {es fs : List Ent} (hn : n = es.length) (h : w.ownsRow base 35 3 (.slice (some ⟨g, 0, none⟩) (n + m) cap) (n + m) (enL es ++ enL fs)) : RowE base w (.slice (some ⟨g, 0, none⟩) n cap) es := by
  subst hn
  refine ⟨enL_len es, ?_⟩
  rcases h.2 with ⟨hv, _⟩ | ⟨g', cap', cur, hv, hb, hg, hn, hm, hcs, htk⟩
  · cases hv
  · injection hv with e1 e2 e3
    injection e1 with e1
    injection e1 with e1 _ _
    subst e1 e3
    refine .inr ⟨g, cap, cur, rfl, hb, hg, by omega, hm, hcs, ?_⟩
    have h3 := congrArg (List.take (es.length * 3)) htk
    rw [List.take_take, Nat.min_eq_left (by omega)] at h3
    exact h3.trans (List.take_left' (enL_len es))

/-- Entries laid behind a row, and the row itself. -/
theorem wpList_catOld {wr : World} {ops : Array Oper} {rest : List Oper} {o : Oper} {a : Act} {Q : Exit → Act → World → Prop} (hgd : o.guard = none) (s x : Operand)
    (ho : o.op = .call { callee := .builtin .append, args := #[s, x], argTypes := #[31, 31] })
    (base : Nat) (v v2 : Value) (es fs : List Ent) (hs : a.eval s = v) (hown : RowE base wr v es) (hsz : base ≤ wr.heap.size)
    (hx : a.eval x = v2) (hr : RdE wr v2 fs) (hl : es.length + fs.length ≤ 1000000) (hp : 0 < fs.length)
    (h : ∀ g cap w', RowE base w' (.slice (some ⟨g, 0, none⟩) (es.length + fs.length) cap) (es ++ fs) → RowE base w' v es → wr.grownBy w' v.ownBlock → wpList Try.prog ops Q rest (a.put o.dst (.slice (some ⟨g, 0, none⟩) (es.length + fs.length) cap)) w') :
    wpList Try.prog ops Q (o :: rest) a wr := by
  obtain ⟨i, hi, hz, hsize, hby⟩ := info_parts infoE3
  have ht := Try.underlying31
  obtain ⟨ao, cap, rfl, h1, h2, h3⟩ := hr
  have hml : es.length + fs.length ≤ maxLen := by unfold maxLen; omega
  obtain ⟨g, off, rfl, lt, _⟩ := h3 0 hp
  have hnews : ∀ j u, (enL fs)[j]? = some u → wr.cell? ((⟨g, off, none⟩ : Addr).add j) = some u := fun j u hj => by
    have hjl : j < fs.length * 3 := by have := (List.getElem?_eq_some_iff.1 hj).1; rwa [enL_len] at this
    obtain ⟨g', o', e1, _, hc⟩ := h3 (j / 3) (by omega)
    cases e1
    have hadd : (⟨g, off, none⟩ : Addr).add j = ⟨g, off + j, none⟩ := by unfold Addr.add; split <;> simp_all
    have hd : j = j / 3 * 3 + j % 3 := by omega
    have ha := enL_at fs (j / 3) (j % 3) (by omega) (by omega)
    rw [← hd, hj] at ha
    have := hc (j % 3) u ha.symm
    rw [show off + j / 3 * 3 + j % 3 = off + j from by omega] at this
    rw [hadd]; exact this
  refine wpList_plain hgd fun K hK => ?_
  obtain ⟨g2, cap2, w2, hr2, o2, gr, fate, _⟩ := run_append_old (P := Try.prog) wr 31 o.type base 35 i _ 3 24 ht hi hz hsize hby rfl (by decide) v es.length (enL es) hown ⟨g, off, none⟩ fs.length cap (enL fs) (enL_len fs) hnews (enL_one fs) hp hml (by omega) hsz wr.heap.size rfl
  unfold Oper.wp execOp
  simp only [ho, resolve, invoke, builtin, Sem.run_bind, Sem.run_pure, Result.andThen_ok, List.map_toArray, List.map_cons, List.map_nil, hs, hx, hr2]
  refine hK _ _ (h g2 cap2 w2 ?_ ?_ gr)
  · unfold RowE
    rw [List.length_append, enL_append]
    exact o2
  · rcases fate with e | ⟨_, gn⟩
    · rw [e]; exact RowE.short rfl o2
    · exact RowE.kept hown gn (fun _ _ => by simp)

abbrev goE (c : Int) : Ent := ⟨0, 0, c⟩
set_option maxRecDepth 20000 in
set_option maxHeartbeats 2000000 in
theorem goneOn_at (lo hi : Nat) (v : Value) (es : List Ent) (c : Int) (w : World) (hr : Rw lo hi w v es) (hhi : hi ≤ w.heap.size) (hlo : lo ≤ w.heap.size) (hn : es.length ≤ 5) :
    Calls Try.prog 12 #[v, .int .i64 c] w fun e w' => e = .returned (.bool true) ∧ Rw lo hi w' v es ∧ w.grownBy w' v.ownBlock := by
  have AE : Hid (∀ w' va vb, RdE w' va (List.replicate 64 (goE c)) → RdE w' vb (List.replicate 64 (goE c)) → Calls Try.prog 11 #[va, vb] w' fun e w2 => e = .returned (.bool true) ∧ Below w'.heap.size w' w2) := fun w' va vb h1 h2 => (alike9_yes _ va vb w' (by simp) h1 h2).mono fun e w2 ⟨a, n, b⟩ => ⟨a, by rw [b]; exact below_drewN (Below.refl _ _) n⟩
  have RS : ∀ k, List.replicate (k + 1) (goE c) = List.replicate k (goE c) ++ [goE c] := fun k => List.replicate_succ' ..
  have RS : Hid (∀ k, List.replicate (k + 1) (goE c) = List.replicate k (goE c) ++ [goE c]) := RS
  have HR : Hid (Rw lo hi w v es) := hr
  obtain ⟨ao, cap, rfl, hcap, -, -⟩ := hr.row.rd
  obtain ⟨n, hn'⟩ : ∃ n, es.length = n := ⟨_, rfl⟩
  have HN : Hid (es.length = n) := hn'
  rw [hn'] at hn HR ⊢
  have HL : Hid (lo ≤ w.heap.size ∧ hi ≤ w.heap.size) := ⟨hlo, hhi⟩
  clear hr hhi hlo hcap hn'
  go_enter Try.func12, Try.ntmps12
  go_wp2_with fail
  go_loopw [5, 6] (fun vm vk wr => ∃ k : Nat, vk = .int .i64 (k : Int) ∧ k ≤ 64 ∧ RowE w.heap.size wr vm (List.replicate k (goE c)) ∧ Below w.heap.size w wr) (fun _ vk _ => 64 - (intOf vk).toNat)
  case atStart => exact ⟨0, rfl, by omega, RowE.nil _ _, Below.refl _ _⟩
  case round =>
    obtain ⟨k, rfl, hk, re, bb⟩ := hrel
    have BB : Hid (Below w.heap.size w wr ∧ RowE w.heap.size wr u5 (List.replicate k (goE c))) := ⟨bb, re⟩
    clear bb re
    by_cases hlt : (k : Int) < 64
    · have AL : Hid (Below wr.heap.size wr (wr.alloc (.cells #[.int .i64 0, .int .i64 0, .int .i64 c] 35))) := below_alloc wr _
      have ON : Hid (RdE (wr.alloc (.cells #[.int .i64 0, .int .i64 0, .int .i64 c] 35)) (.slice (some ⟨wr.heap.size, 0, none⟩) 1 1) [goE c]) := RdE.one wr (goE c)
      go_wp2_with (at_builtin; refine wpList_catE rfl (.tmp 12) (.tmp 15) rfl w.heap.size u5 (.slice (some ⟨wr.heap.size, 0, none⟩) 1 1) (List.replicate k (goE c)) [goE c] rfl (RowE.later BB.out.2 AL.out) (Nat.le_trans BB.out.1.size AL.out.size) rfl ON.out (by simp; omega) ?_; intro v5 w5 r5 g5)
      go_roundw
      case rel => exact ⟨k + 1, by go_num, by omega, by rw [RS.out]; exact r5, (below_trans BB.out.1 AL.out).grown g5 (below_trans BB.out.1 AL.out).size (fun g hg => RowE.ge BB.out.2 hg)⟩
      case measure => simp [intOf]; omega
    · obtain rfl : k = 64 := by omega
      have R0 : Hid (Rw lo hi wr (.slice ao n cap) es) := HR.out.call BB.out.1
      have SZ : Hid (lo ≤ wr.heap.size) := Nat.le_trans HL.out.1 BB.out.1.size
      obtain ⟨am, cm, em, -, -, -⟩ := BB.out.2.rd
      rw [List.length_replicate] at em
      subst em
      clear RS
      go_wp2_with (at_builtin; refine wpList_catOld rfl (.tmp 17) (.tmp 18) rfl lo (.slice ao n cap) (.slice am 64 cm) es (List.replicate 64 (goE c)) rfl R0.out.row SZ.out rfl BB.out.2.rd (by have := HN.out; simp; omega) (by simp) ?_; intro g7 c7 w7 r7 s7 g7'; rw [HN.out, List.length_replicate]; rw [HN.out, List.length_replicate] at r7; have hc7 : n + 64 ≤ c7 := (by obtain ⟨a8, c8, e8, h8, -⟩ := r7.rd; injection e8 with _ _ e8; have h9 : es.length = n := HN.out; rw [List.length_append, List.length_replicate, h9] at h8; omega); have hne : ¬(n = c7) := (by omega); have R7 : Hid (RowE lo w7 (.slice (some ⟨g7, 0, none⟩) (n + 64) c7) (es ++ List.replicate 64 (goE c)) ∧ RowE lo w7 (.slice ao n cap) es ∧ wr.grownBy w7 (Value.slice ao n cap).ownBlock) := ⟨r7, s7, g7'⟩; clear r7 s7 g7')
      have D7 : Hid (RdE w7 (.slice (some ⟨g7, n * 3, none⟩) 64 (c7 - n)) (List.replicate 64 (goE c))) := by
        have h := RdE.drop R7.out.1.rd (k := n) (by omega)
        have h9 : es.length = n := HN.out
        rw [show n + 64 - n = 64 from by omega, List.drop_append_of_le_length (by omega), List.drop_of_length_le (by omega), Nat.zero_add] at h
        exact h
      have M7 : Hid (RdE w7 (.slice am 64 cm) (List.replicate 64 (goE c))) := (RowE.kept BB.out.2 R7.out.2.2 (fun g hg e => by
        have h1 := RowE.ge BB.out.2 hg
        have h2 := R0.out.top g e
        have := HL.out.2
        omega)).rd
      refine (AE.out _ _ _ D7.out M7.out).mono ?_
      rintro e w8 ⟨rfl, b8⟩
      have R8 : Hid (Rw lo hi w8 (.slice ao n cap) es ∧ w.grownBy w8 (Value.slice ao n cap).ownBlock) := by
        refine ⟨⟨RowE.later R7.out.2.1 b8, R0.out.top⟩, ?_⟩
        have g1 := grownBy_below BB.out.1 (Value.slice ao n cap).ownBlock
        have g3 := grownBy_below b8 (Value.slice ao n cap).ownBlock
        exact (g1.trans R7.out.2.2).trans g3
      clear D7 M7 R7 b8
      go_wp2_with fail
      go_ret
      exact ⟨rfl, R8.out⟩
end Go.Proofs.Ytplebplpachgiaa
