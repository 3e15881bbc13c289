/-
  Ours: lists of instalments and of notices, read (gen_wrd4.py).
-/
import Derived.Test.YtdbjjeaflfoppaaWirRd3
import Derived.Test.YtdbjjeaflfoppaaWirStT2
namespace Go.Proofs.Ytdbjjeaflfoppaa
open Go.RowKit WsM

theorem insB_pos (i : Ins) (_ : i.Ok) : 0 < (insB i).length := by unfold insB; rw [List.length_append, putB_len]; omega
theorem owB_pos (n : Nt) (_ : n.Ok) : 0 < (owB n).length := by unfold owB; rw [List.length_append, putB_len]; omega
/-- What a reader of a list answers: the row, in new memory. -/
def LsAns {α : Type} (K : Nat) (cells : α → List Value) (f : α → List Nat) (Ok : α → Prop) (bs : List Nat) (R : Nat) (v : Value) (p : Nat) (w : World) (e : Ending) (w' : World) : Prop :=
  ∃ (a : Option Addr) (n c : Nat) (xs : List α) (y : Int) (k : Bool), e = .returned (.tuple #[.slice a n c, .int .i64 y, .bool k]) ∧ RdS K w' (.slice a n c) (xs.map cells) ∧ (∀ g, (Value.slice a n c).ownBlock = some g → w.heap.size ≤ g ∧ g < w'.heap.size) ∧ (∃ st, RS bs R v st w') ∧ w.grownBy w' (some R) ∧
    ((k = false ∧ xs = [] ∧ y = 0 ∧ Got (lsB f) (fun xs => ∀ x ∈ xs, Ok x) bs p none xs) ∨ (k = true ∧ ∃ q : Nat, y = (q : Int) ∧ Got (lsB f) (fun xs => ∀ x ∈ xs, Ok x) bs p (some q) xs))
theorem RdS.nil (K : Nat) (w : World) : RdS K w (.slice none 0 0) [] := ⟨none, 0, rfl, Nat.le_refl _, fun _ => rfl, fun i hi => by simp at hi⟩
/-- What a reader of a field that is a list answers. -/
def TkAns {α : Type} (K : Nat) (cells : α → List Value) (f : α → List Nat) (Ok : α → Prop) (bs : List Nat) (R : Nat) (v : Value) (st : Option Nat) (w : World) (e : Ending) (w' : World) : Prop :=
  ∃ (a : Option Addr) (n c : Nat) (xs : List α) (st' : Option Nat), e = .returned (.slice a n c) ∧ RdS K w' (.slice a n c) (xs.map cells) ∧ (∀ g, (Value.slice a n c).ownBlock = some g → w.heap.size ≤ g ∧ g < w'.heap.size) ∧ RS bs R v st' w' ∧ w.grownBy w' (some R) ∧ (st = none → st' = none) ∧ ∀ p, st = some p → Got (lsB f) (fun xs => ∀ x ∈ xs, Ok x) bs p st' xs
abbrev instalmentF (R : Nat) : Value := .func (.func 77) #[.pointer (some ⟨R, 0, none⟩)] #[]
set_option maxRecDepth 20000 in
set_option maxHeartbeats 4000000 in
theorem listIns_at (bs : List Nat) (hb : ∀ c ∈ bs, c < 256) (hl : bs.length ≤ 1000000000000) (R q0 : Nat) (v : Value) (p : Nat) (w : World) (h : RS bs R v (some q0) w) (hp : p ≤ bs.length) :
    Calls Try.prog 101 #[v, .int .i64 (p : Int), instalmentF R] w (LsAns 4 insL insB Ins.Ok bs R v p w) := by
  obtain ⟨i0, hi, hz0, hz1, hz2⟩ := info_parts infoI4
  have C : Hid (Calls Try.prog 127 #[v, .int .i64 (p : Int)] w fun e w' => e = lenAns (lenR bs (p : Int)) ∧ w' = w) := length_at bs p v w hb (by omega) (by omega) (by omega) h.rd
  have hR := h.lt
  have HV : Hid (0 < bs.length → ∀ g, v.ownBlock = some g → g < w.heap.size) := fun h0 g e => Rd.block h.rd (by rw [List.length_map]; exact h0) e
  have H0 : Hid (∃ st, RS bs R v (some st) w) := ⟨_, h⟩
  have HG : Hid (∀ w' q1 (q : Nat), RS bs R v (some q1) w' → q ≤ bs.length → Calls Try.prog 77 #[.pointer (some ⟨R, 0, none⟩), v, .int .i64 (q : Int)] w' (ElAns insL insB Ins.Ok bs R v q w')) := fun w' q1 q h1 h2 => instalment_at bs hb hl R v q w' (Seeks.of_rs h1 h2)
  obtain ⟨L, hL⟩ : ∃ L, bs.length = L := ⟨_, rfl⟩
  obtain ⟨ao, cap, ev, hcap, hn⟩ := h.rd.len
  rw [List.length_map, hL] at ev hcap
  subst ev
  have HB : Hid (∀ c ∈ bs, c < 256) := hb
  have HP : Hid (p ≤ bs.length) := hp
  unfold instalmentF
  cases hr : lenR bs (p : Int) with
  | none =>
    have NO : Hid (Got (lsB insB) (fun xs => ∀ x ∈ xs, Ins.Ok x) bs p none []) := ⟨(fun q h => by cases h), fun _ ys r oy e => lsB_none insB_pos hb hl hp hr ys r oy e⟩
    rw [hr] at C
    clear hr h HG hb
    go_enter Try.func101, Try.ntmps101
    go_wp2_with fail
    refine C.out.mono ?_
    rintro e w1 ⟨rfl, hw⟩; rw [hw]; clear hw w1
    simp only [lenAns]
    go_wp2_with fail
    go_ret3
    obtain ⟨st, hst⟩ := H0.out
    exact ⟨none, 0, 0, [], _, _, rfl, RdS.nil _ _, (fun g hg => by cases hg), ⟨_, hst⟩, grownBy_refl _ _, .inl ⟨rfl, rfl, rfl, NO.out⟩⟩
  | some q =>
    obtain ⟨n, f0⟩ := q
    obtain ⟨_, f1, f2, f3⟩ := lenR_le hb hr
    have HRR : Hid (lenR bs (p : Int) = some (n, f0)) := hr
    rw [hr] at C
    rw [hL] at hl f3
    have hL' : Hid (bs.length = L) := hL
    clear hr h hL hb hp
    go_enter Try.func101, Try.ntmps101
    go_wp2_with fail
    refine C.out.mono ?_
    rintro e w1 ⟨rfl, hw⟩; rw [hw]; clear hw w1
    simp only [lenAns]
    go_wp2_with fail
    go_loopw [12, 10, 26] (fun vl vq vk wr => ∃ (k : Nat) (xs : List Ins) (q : Nat) (vv : Value), vv = vl ∧ vk = .int .i64 (k : Int) ∧ vq = .int .i64 (q : Int) ∧ q ≤ L ∧ k ≤ n ∧ Hid (RdLi insB Ins.Ok bs f0 k xs q) ∧ Hid (wr.ownsRow 0 108 4 vv (xs.map insL).length (xs.map insL).flatten) ∧ Hid (∀ g, vv.ownBlock = some g → w.heap.size ≤ g) ∧ Hid (∃ st, RS bs R (.slice ao L cap) (some st) wr) ∧ Hid (w.grownBy wr (some R))) (fun _ _ vk _ => n - (intOf vk).toNat)
    case atStart => exact ⟨0, [], f0, _, rfl, rfl, rfl, by omega, by omega, RdLi.start (by rw [hL'.out]; omega), World.ownsRow_nil _ _ _ _, (fun g hg => by cases hg), H0, grownBy_refl _ _⟩
    case round =>
      obtain ⟨k, xs, q, vv, rfl, rfl, rfl, q1, hk, HR, OW, NW, HS, NX⟩ := hrel
      by_cases hlt : (k : Int) < (n : Int)
      · obtain ⟨st, hst⟩ := HS.out
        have G := HG.out _ st q hst (by rw [hL'.out]; exact q1)
        have lx := HR.out.len
        have l1 : (xs.map insL).length + 1 ≤ maxLen := by rw [List.length_map]; unfold maxLen; omega
        have l2 : ((xs.map insL).length + 1) * 32 ≤ 140737488355328 := by rw [List.length_map]; omega
        have LL : Hid ((xs.map insL).length + 1 ≤ maxLen ∧ ((xs.map insL).length + 1) * 32 ≤ 140737488355328) := ⟨l1, l2⟩
        clear lx hst l1 l2
        go_wp2_with fail
        refine G.mono ?_
        rintro e w2 ⟨x, y, s2, rfl, hy, k2, g2, gt⟩
        have K2 : Hid (RS bs R (.slice ao L cap) s2 w2) := k2
        have N2 : Hid (w.grownBy w2 (some R)) := grownBy_trans NX.out g2
        have O2 : Hid (w2.ownsRow 0 108 4 vv (xs.map insL).length (xs.map insL).flatten) := World.ownsRow.kept OW.out g2 (by
          cases hv : vv.ownBlock with
          | none => exact .inl rfl
          | some g => exact .inr (fun e => by have := NW.out g hv; injection e with e; omega))
        have GT : Hid (Got insB Ins.Ok bs q s2 x) := gt
        have EN : Hid (Blk w2.heap.size 108 [.int .i64 0, .int .i64 0, .int .i64 0, .bool false] (w2.alloc (.cells #[.int .i64 0, .int .i64 0, .int .i64 0, .bool false] 108))) := Blk.new _ _ _
        have KN : Hid (RS bs R (.slice ao L cap) s2 (w2.alloc (.cells #[.int .i64 0, .int .i64 0, .int .i64 0, .bool false] 108))) := k2.below (below_alloc _ _)
        have NN : Hid (w.grownBy (w2.alloc (.cells #[.int .i64 0, .int .i64 0, .int .i64 0, .bool false] 108)) (some R)) := grownBy_trans N2.out (grownBy_below (below_alloc _ _) _)
        have ON : Hid ((w2.alloc (.cells #[.int .i64 0, .int .i64 0, .int .i64 0, .bool false] 108)).ownsRow 0 108 4 vv (xs.map insL).length (xs.map insL).flatten) := World.ownsRow.alloc O2.out _
        have SZ : Hid (w.heap.size ≤ w2.heap.size) := N2.out.size
        have BL : Hid (∀ g, vv.ownBlock = some g → g < w2.heap.size) := fun g hg => (World.ownsRow.lt O2.out g hg).2
        clear k2 g2 gt G OW NX K2 N2 O2
        cases s2 with
        | none =>
          have NO : Hid (Got (lsB insB) (fun xs => ∀ x ∈ xs, Ins.Ok x) bs p none []) := HR.out.fails ins_pin HB.out HP.out HRR.out (by omega) GT.out []
          simp only [Option.isSome]
          go_wp2_with ((with_reducible refine at_store ?_); refine step_store rfl 108 _ _ rfl w2.heap.size 0 108 [.int .i64 0, .int .i64 0, .int .i64 0, .bool false] (insL x) rfl rfl EN.out (by show 0 + 4 ≤ 4; omega) (by show _ = some 4; kernel_rfl) (insL_one _).2 ?_; intro w3 nb gb; have K3 : Hid (RS bs R (.slice ao L cap) none w3) := KN.out.other gb (by have := SZ.out; omega) (fun h0 e => by have := HV.out h0 _ e; have := SZ.out; omega); have N3 : Hid (w.grownBy w3 (some R)) := grown_more NN.out gb SZ.out; clear nb gb)
          go_ret3
          exact ⟨none, 0, 0, [], _, _, rfl, RdS.nil _ _, (fun g hg => by cases hg), ⟨_, K3.out⟩, N3.out, .inl ⟨rfl, rfl, rfl, NO.out⟩⟩
        | some n1 =>
          obtain rfl := hy n1 rfl
          obtain ⟨ox, ex, lx, ll⟩ := GT.out.yes n1 rfl
          have px := insB_pos x ox
          rw [hL'.out] at ll
          have HS2 : Hid (RdLi insB Ins.Ok bs f0 (k + 1) (xs ++ [x]) n1) := HR.out.step GT.out rfl
          have d1 : decide ((n1 : Int) ≤ (q : Int)) = false := decide_eq_false (by omega)
          have d2 : decide ((L : Int) < (n1 : Int)) = false := decide_eq_false (by omega)
          have d3 : decide (n1 ≤ q) = false := decide_eq_false (by omega)
          have d4 : decide (L < n1) = false := decide_eq_false (by omega)
          have lq : q < n1 := by omega
          simp only [Option.isSome]
          clear ox ex lx px hy GT
          go_wp2_with (first
            | ((with_reducible refine at_store ?_); refine step_store rfl 108 _ _ rfl w2.heap.size 0 108 [.int .i64 0, .int .i64 0, .int .i64 0, .bool false] (insL x) rfl rfl EN.out (by show 0 + 4 ≤ 4; omega) (by show _ = some 4; kernel_rfl) (insL_one _).2 ?_; intro w3 nb gb; rw [store_all (by rfl)] at nb; have B3 : Hid (Blk w2.heap.size 108 (insL x) w3) := nb; have K3 : Hid (RS bs R (.slice ao L cap) (some n1) w3) := KN.out.other gb (by have := SZ.out; omega) (fun h0 e => by have := HV.out h0 _ e; have := SZ.out; omega); have N3 : Hid (w.grownBy w3 (some R)) := grown_more NN.out gb SZ.out; have O3 : Hid (w3.ownsRow 0 108 4 vv (xs.map insL).length (xs.map insL).flatten) := World.ownsRow.kept ON.out gb (by (cases hv : vv.ownBlock with | none => exact .inl rfl | some g => exact .inr (fun e => by have := BL.out g hv; injection e with e; omega))); clear nb gb)
            | ((with_reducible refine at_loadT 108 ?_); refine step_load rfl 108 _ rfl w2.heap.size 0 rfl (insL x) _ B3.out.all Try.underlying108 rfl (by show _ = some 4; kernel_rfl) ?_)
            | ((with_reducible refine at_slice ?_); refine step_slice1 rfl 56 108 _ rfl i0 _ 4 (by decide) Try.underlying56 hi hz0 hz1 (by decide) (insL x) (insL_one _).1 rfl ?_)
            | (at_builtin; refine wpList_pushS rfl (.tmp 49) (.tmp 51) 56 rfl 108 i0 _ 4 32 Try.underlying56 hi hz0 hz1 hz2 rfl (by decide) vv (xs.map insL) (insL x) rfl O3.out rfl (insL_one _).1 (insL_one _).2 LL.out.1 LL.out.2 ?_; intro v4 w4 row4 g4 o4))
          have R4 : w4.ownsRow 0 108 4 v4 ((xs ++ [x]).map insL).length ((xs ++ [x]).map insL).flatten := by rw [List.map_append]; exact row4
          have NW4 : ∀ g, v4.ownBlock = some g → w.heap.size ≤ g := fun g hg => by
            rcases o4 g hg with h1 | h1
            · exact NW.out g h1
            · have := N3.out.size; omega
          have S4 : ∃ st, RS bs R (.slice ao L cap) (some st) w4 := ⟨n1, K3.out.keep g4 (fun e => by have := NW.out _ e; omega) (fun h0 g hg e => by have := NW.out _ e; have := HV.out h0 g hg; omega)⟩
          have N4 : w.grownBy w4 (some R) := grown_row N3.out g4 (fun g e => NW.out g e)
          go_roundw
          case rel => exact ⟨k + 1, xs ++ [x], n1, v4, rfl, by go_num, rfl, ll, by omega, HS2.out, R4, NW4, S4, N4⟩
          case measure => simp [intOf]; omega
      · obtain rfl : k = n := by omega
        have E : Hid (Got (lsB insB) (fun xs => ∀ x ∈ xs, Ins.Ok x) bs p (some q) xs) := RdLi.ends HB.out HP.out HRR.out HR.out
        have RR : Hid (RdS 4 wr vv (xs.map insL)) := owns_rd (fun c hc => by obtain ⟨i, _, rfl⟩ := List.mem_map.1 hc; exact (insL_one _).1) OW.out
        obtain ⟨va, vc, evv, -, -⟩ := RR.out.len
        generalize (xs.map insL).length = vn at evv
        subst evv
        have BL : Hid (∀ g, (Value.slice va vn vc).ownBlock = some g → w.heap.size ≤ g ∧ g < wr.heap.size) := fun g hg => ⟨NW.out g hg, (World.ownsRow.lt OW.out g hg).2⟩
        go_wp2_with fail
        go_ret3
        obtain ⟨st, hst⟩ := HS.out
        exact ⟨va, vn, vc, xs, _, _, rfl, RR.out, BL.out, ⟨_, hst⟩, NX.out, .inr ⟨rfl, q, rfl, E.out⟩⟩
set_option maxRecDepth 20000 in
theorem closIns_at (bs : List Nat) (hb : ∀ c ∈ bs, c < 256) (hl : bs.length ≤ 1000000000000) (R q0 B : Nat) (v : Value) (p : Nat) (w : World) (h : RS bs R v (some q0) w) (hp : p ≤ bs.length) (hB : w.cell? ⟨B, 0, none⟩ = some (instalmentF R)) :
    Calls Try.prog 100 #[v, .int .i64 (p : Int), .pointer (some ⟨B, 0, none⟩)] w (LsAns 4 insL insB Ins.Ok bs R v p w) := by
  have C : Hid (Calls Try.prog 101 #[v, .int .i64 (p : Int), .func (.func 77) #[.pointer (some ⟨R, 0, none⟩)] #[]] w (LsAns 4 insL insB Ins.Ok bs R v p w)) := listIns_at bs hb hl R q0 v p w h hp
  obtain ⟨ao, cap, ev, _, _⟩ := h.rd.len
  generalize (bs.map bv).length = L at ev
  subst ev
  clear h hb hl hp
  unfold instalmentF at hB
  go_enter Try.func100, Try.ntmps100
  go_wp2_with fail
  refine C.out.mono ?_
  rintro e w1 ⟨a, n, c, xs, y, k, rfl, r1, b1, s1, g1, D1⟩
  have KK : Hid (LsAns 4 insL insB Ins.Ok bs R (.slice ao L cap) p w (.returned (.tuple #[.slice a n c, .int .i64 y, .bool k])) w1) := ⟨a, n, c, xs, y, k, rfl, r1, b1, s1, g1, D1⟩
  clear r1 b1 s1 g1 D1
  go_wp2_with fail
  go_ret3
  exact KK.out
set_option maxRecDepth 20000 in
set_option maxHeartbeats 1000000 in
theorem takeIns_at (bs : List Nat) (hb : ∀ c ∈ bs, c < 256) (hl : bs.length ≤ 1000000000000) (R B : Nat) (v : Value) (st : Option Nat) (w : World) (h : RS bs R v st w) (hB : w.cell? ⟨B, 0, none⟩ = some (instalmentF R)) :
    Calls Try.prog 99 #[.pointer (some ⟨R, 0, none⟩), .func (.func 100) #[] #[.pointer (some ⟨B, 0, none⟩)]] w (TkAns 4 insL insB Ins.Ok bs R v st w) := by
  have c0 := h.c0
  have c2 := h.c2
  obtain ⟨p, c1, hp⟩ := h.c1
  have hR := h.lt
  cases st with
  | none =>
    simp only [Option.isNone] at c2
    have HH : Hid (RS bs R v none w) := h
    clear h hp hB
    go_enter Try.func99, Try.ntmps99
    go_wp2_with fail
    go_ret
    exact ⟨none, 0, 0, [], none, rfl, RdS.nil _ _, (fun g hg => by cases hg), HH.out, grownBy_refl _ _, fun _ => rfl, (fun p h => by cases h)⟩
  | some q =>
    obtain rfl := hp q rfl
    have hq := h.le q rfl
    simp only [Option.isNone] at c2
    have C : Hid (∀ n, Calls Try.prog 100 #[v, .int .i64 (q : Int), .pointer (some ⟨B, 0, none⟩)] (w.drewN n) (LsAns 4 insL insB Ins.Ok bs R v q (w.drewN n))) := fun n => closIns_at bs hb hl R q B v q (w.drewN n) (h.drewN n) hq hB
    clear h hp hB hq hb hl
    go_enter Try.func99, Try.ntmps99
    go_wp2_with fail
    go_cut [6, 7, 8] from 14 to 27 (fun x y z wx => ∃ a n c xs y' k, x = .slice a n c ∧ y = .int .i64 y' ∧ z = .bool k ∧ Hid (RdS 4 wx (.slice a n c) (xs.map insL)) ∧ Hid (∀ g, (Value.slice a n c).ownBlock = some g → w.heap.size ≤ g ∧ g < wx.heap.size) ∧ Hid (∃ st, RS bs R v st wx) ∧ w.grownBy wx (some R) ∧ Hid ((k = false ∧ xs = [] ∧ y' = 0 ∧ Got (lsB insB) (fun xs => ∀ x ∈ xs, Ins.Ok x) bs q none xs) ∨ (k = true ∧ ∃ q1 : Nat, y' = (q1 : Int) ∧ Got (lsB insB) (fun xs => ∀ x ∈ xs, Ins.Ok x) bs q (some q1) xs)))
    case first =>
      go_region_with (go_at_call 100; refine (C.out _).mono ?_; rintro e w1 ⟨a, n, c, xs, y, k, rfl, r1, b1, s1, g1, D1⟩)
      all_goals
        go_wp2_with fail
        go_meet
        exact ⟨a, n, c, xs, y, k, rfl, rfl, rfl, r1, b1, s1, ⟨g1.os, g1.tape, g1.output, g1.size, g1.block⟩, D1⟩
    case rest =>
      obtain ⟨a, n, c, xs, y', k, rfl, rfl, rfl, r1, b1, s1, g1, D1⟩ := hcut
      obtain ⟨st, s⟩ := s1.out
      obtain ⟨p1, k1, _⟩ := s.c1
      have k2 := s.c2
      have fz1 := s.fz 1
      have fz2 := s.fz 2
      have PT : Hid (∀ st' : Option Nat, (∀ q, st' = some q → y' = (q : Int)) → (∀ q, st' = some q → q ≤ bs.length) → RS bs R v st' ((wc.setCell ⟨R, 1, none⟩ (.int .i64 y')).setCell ⟨R, 2, none⟩ (.bool st'.isNone)) ∧ wc.grownBy ((wc.setCell ⟨R, 1, none⟩ (.int .i64 y')).setCell ⟨R, 2, none⟩ (.bool st'.isNone)) (some R)) := fun st' h1 h2 => s.put (st' := st') 0 y' h1 h2
      clear s s1 C
      rcases D1.out with ⟨rfl, rfl, rfl, GG⟩ | ⟨rfl, q1, rfl, GG⟩
      · obtain ⟨F1, F2⟩ := PT.out none (fun q h => by cases h) (fun q h => by cases h)
        simp only [Option.isNone] at F1 F2
        have HGG : Hid (Got (lsB insB) (fun xs => ∀ x ∈ xs, Ins.Ok x) bs q none []) := GG
        have F1' : Hid (RS bs R v none ((wc.setCell ⟨R, 1, none⟩ (.int .i64 0)).setCell ⟨R, 2, none⟩ (.bool true))) := F1
        have F2' : Hid (w.grownBy ((wc.setCell ⟨R, 1, none⟩ (.int .i64 0)).setCell ⟨R, 2, none⟩ (.bool true)) (some R)) := grownBy_trans g1 F2
        clear F1 F2 PT D1 GG
        go_wp2_with fail
        go_ret
        exact ⟨a, n, c, [], none, rfl, r1.out.grown (grownBy_trans (setCell_grown _ R 1 _) (setCell_grown _ R 2 _)) (fun g hg e => by have := b1.out g hg; injection e with e; omega), (fun g hg => by have := b1.out g hg; simp; omega), F1'.out, F2'.out, (fun h => by cases h), (fun p h => by injection h with h; subst h; exact HGG.out)⟩
      · have LE : q1 ≤ bs.length := (GG.yes q1 rfl).2.2.2
        obtain ⟨F1, F2⟩ := PT.out (some q1) (fun q h => by cases h; rfl) (fun q h => by cases h; exact LE)
        simp only [Option.isNone] at F1 F2
        have HGG : Hid (Got (lsB insB) (fun xs => ∀ x ∈ xs, Ins.Ok x) bs q (some q1) xs) := GG
        have F1' : Hid (RS bs R v (some q1) ((wc.setCell ⟨R, 1, none⟩ (.int .i64 (q1 : Int))).setCell ⟨R, 2, none⟩ (.bool false))) := F1
        have F2' : Hid (w.grownBy ((wc.setCell ⟨R, 1, none⟩ (.int .i64 (q1 : Int))).setCell ⟨R, 2, none⟩ (.bool false)) (some R)) := grownBy_trans g1 F2
        clear F1 F2 PT D1 GG LE
        go_wp2_with fail
        go_ret
        exact ⟨a, n, c, xs, some q1, rfl, r1.out.grown (grownBy_trans (setCell_grown _ R 1 _) (setCell_grown _ R 2 _)) (fun g hg e => by have := b1.out g hg; injection e with e; omega), (fun g hg => by have := b1.out g hg; simp; omega), F1'.out, F2'.out, (fun h => by cases h), (fun p h => by injection h with h; subst h; exact HGG.out)⟩
set_option maxRecDepth 20000 in
set_option maxHeartbeats 1000000 in
theorem takeListIns_at (bs : List Nat) (hb : ∀ c ∈ bs, c < 256) (hl : bs.length ≤ 1000000000000) (R : Nat) (v : Value) (st : Option Nat) (w : World) (h : RS bs R v st w) :
    Calls Try.prog 76 #[.pointer (some ⟨R, 0, none⟩), instalmentF R] w (TkAns 4 insL insB Ins.Ok bs R v st w) := by
  have C : Hid (∀ w' B, Below w.heap.size w w' → w'.cell? ⟨B, 0, none⟩ = some (instalmentF R) → Calls Try.prog 99 #[.pointer (some ⟨R, 0, none⟩), .func (.func 100) #[] #[.pointer (some ⟨B, 0, none⟩)]] w' (TkAns 4 insL insB Ins.Ok bs R v st w')) := fun w' B h1 h2 => takeIns_at bs hb hl R B v st w' (h.below h1) h2
  clear h hb hl
  unfold instalmentF at *
  go_enter Try.func76, Try.ntmps76
  go_wp2_with fail
  refine (C.out _ _ (below_alloc w _) ((Blk.new _ [_] w).cell 0 _ rfl)).mono ?_
  rintro e w1 ⟨a, n, c, xs, st', rfl, r1, b1, s1, g1, n1, t1⟩
  have F : Hid (TkAns 4 insL insB Ins.Ok bs R v st w (.returned (.slice a n c)) w1) := ⟨a, n, c, xs, st', rfl, r1, (fun g hg => by have := b1 g hg; simp at this; omega), s1, grownBy_trans (grownBy_below (below_alloc w _) _) g1, n1, t1⟩
  clear r1 b1 s1 g1 n1 t1
  go_wp2_with fail
  go_ret
  exact F.out
abbrev owedF (R : Nat) : Value := .func (.func 85) #[.pointer (some ⟨R, 0, none⟩)] #[]
set_option maxRecDepth 20000 in
set_option maxHeartbeats 4000000 in
theorem listNt_at (bs : List Nat) (hb : ∀ c ∈ bs, c < 256) (hl : bs.length ≤ 1000000000000) (R q0 : Nat) (v : Value) (p : Nat) (w : World) (h : RS bs R v (some q0) w) (hp : p ≤ bs.length) :
    Calls Try.prog 110 #[v, .int .i64 (p : Int), owedF R] w (LsAns 6 ntL owB Nt.Ok bs R v p w) := by
  obtain ⟨i0, hi, hz0, hz1, hz2⟩ := info_parts infoN6
  have C : Hid (Calls Try.prog 127 #[v, .int .i64 (p : Int)] w fun e w' => e = lenAns (lenR bs (p : Int)) ∧ w' = w) := length_at bs p v w hb (by omega) (by omega) (by omega) h.rd
  have hR := h.lt
  have HV : Hid (0 < bs.length → ∀ g, v.ownBlock = some g → g < w.heap.size) := fun h0 g e => Rd.block h.rd (by rw [List.length_map]; exact h0) e
  have H0 : Hid (∃ st, RS bs R v (some st) w) := ⟨_, h⟩
  have HG : Hid (∀ w' q1 (q : Nat), RS bs R v (some q1) w' → q ≤ bs.length → Calls Try.prog 85 #[.pointer (some ⟨R, 0, none⟩), v, .int .i64 (q : Int)] w' (ElAns ntL owB Nt.Ok bs R v q w')) := fun w' q1 q h1 h2 => owed_at bs hb hl R v q w' (Seeks.of_rs h1 h2)
  obtain ⟨L, hL⟩ : ∃ L, bs.length = L := ⟨_, rfl⟩
  obtain ⟨ao, cap, ev, hcap, hn⟩ := h.rd.len
  rw [List.length_map, hL] at ev hcap
  subst ev
  have HB : Hid (∀ c ∈ bs, c < 256) := hb
  have HP : Hid (p ≤ bs.length) := hp
  unfold owedF
  cases hr : lenR bs (p : Int) with
  | none =>
    have NO : Hid (Got (lsB owB) (fun xs => ∀ x ∈ xs, Nt.Ok x) bs p none []) := ⟨(fun q h => by cases h), fun _ ys r oy e => lsB_none owB_pos hb hl hp hr ys r oy e⟩
    rw [hr] at C
    clear hr h HG hb
    go_enter Try.func110, Try.ntmps110
    go_wp2_with fail
    refine C.out.mono ?_
    rintro e w1 ⟨rfl, hw⟩; rw [hw]; clear hw w1
    simp only [lenAns]
    go_wp2_with fail
    go_ret3
    obtain ⟨st, hst⟩ := H0.out
    exact ⟨none, 0, 0, [], _, _, rfl, RdS.nil _ _, (fun g hg => by cases hg), ⟨_, hst⟩, grownBy_refl _ _, .inl ⟨rfl, rfl, rfl, NO.out⟩⟩
  | some q =>
    obtain ⟨n, f0⟩ := q
    obtain ⟨_, f1, f2, f3⟩ := lenR_le hb hr
    have HRR : Hid (lenR bs (p : Int) = some (n, f0)) := hr
    rw [hr] at C
    rw [hL] at hl f3
    have hL' : Hid (bs.length = L) := hL
    clear hr h hL hb hp
    go_enter Try.func110, Try.ntmps110
    go_wp2_with fail
    refine C.out.mono ?_
    rintro e w1 ⟨rfl, hw⟩; rw [hw]; clear hw w1
    simp only [lenAns]
    go_wp2_with fail
    go_loopw [12, 10, 26] (fun vl vq vk wr => ∃ (k : Nat) (xs : List Nt) (q : Nat) (vv : Value), vv = vl ∧ vk = .int .i64 (k : Int) ∧ vq = .int .i64 (q : Int) ∧ q ≤ L ∧ k ≤ n ∧ Hid (RdLi owB Nt.Ok bs f0 k xs q) ∧ Hid (wr.ownsRow 0 28 6 vv (xs.map ntL).length (xs.map ntL).flatten) ∧ Hid (∀ g, vv.ownBlock = some g → w.heap.size ≤ g) ∧ Hid (∃ st, RS bs R (.slice ao L cap) (some st) wr) ∧ Hid (w.grownBy wr (some R))) (fun _ _ vk _ => n - (intOf vk).toNat)
    case atStart => exact ⟨0, [], f0, _, rfl, rfl, rfl, by omega, by omega, RdLi.start (by rw [hL'.out]; omega), World.ownsRow_nil _ _ _ _, (fun g hg => by cases hg), H0, grownBy_refl _ _⟩
    case round =>
      obtain ⟨k, xs, q, vv, rfl, rfl, rfl, q1, hk, HR, OW, NW, HS, NX⟩ := hrel
      by_cases hlt : (k : Int) < (n : Int)
      · obtain ⟨st, hst⟩ := HS.out
        have G := HG.out _ st q hst (by rw [hL'.out]; exact q1)
        have lx := HR.out.len
        have l1 : (xs.map ntL).length + 1 ≤ maxLen := by rw [List.length_map]; unfold maxLen; omega
        have l2 : ((xs.map ntL).length + 1) * 48 ≤ 140737488355328 := by rw [List.length_map]; omega
        have LL : Hid ((xs.map ntL).length + 1 ≤ maxLen ∧ ((xs.map ntL).length + 1) * 48 ≤ 140737488355328) := ⟨l1, l2⟩
        clear lx hst l1 l2
        go_wp2_with fail
        refine G.mono ?_
        rintro e w2 ⟨x, y, s2, rfl, hy, k2, g2, gt⟩
        have K2 : Hid (RS bs R (.slice ao L cap) s2 w2) := k2
        have N2 : Hid (w.grownBy w2 (some R)) := grownBy_trans NX.out g2
        have O2 : Hid (w2.ownsRow 0 28 6 vv (xs.map ntL).length (xs.map ntL).flatten) := World.ownsRow.kept OW.out g2 (by
          cases hv : vv.ownBlock with
          | none => exact .inl rfl
          | some g => exact .inr (fun e => by have := NW.out g hv; injection e with e; omega))
        have GT : Hid (Got owB Nt.Ok bs q s2 x) := gt
        have EN : Hid (Blk w2.heap.size 28 [.int .i64 0, .int .i64 0, .int .i64 0, .int .i64 0, .int .i64 0, .bool false] (w2.alloc (.cells #[.int .i64 0, .int .i64 0, .int .i64 0, .int .i64 0, .int .i64 0, .bool false] 28))) := Blk.new _ _ _
        have KN : Hid (RS bs R (.slice ao L cap) s2 (w2.alloc (.cells #[.int .i64 0, .int .i64 0, .int .i64 0, .int .i64 0, .int .i64 0, .bool false] 28))) := k2.below (below_alloc _ _)
        have NN : Hid (w.grownBy (w2.alloc (.cells #[.int .i64 0, .int .i64 0, .int .i64 0, .int .i64 0, .int .i64 0, .bool false] 28)) (some R)) := grownBy_trans N2.out (grownBy_below (below_alloc _ _) _)
        have ON : Hid ((w2.alloc (.cells #[.int .i64 0, .int .i64 0, .int .i64 0, .int .i64 0, .int .i64 0, .bool false] 28)).ownsRow 0 28 6 vv (xs.map ntL).length (xs.map ntL).flatten) := World.ownsRow.alloc O2.out _
        have SZ : Hid (w.heap.size ≤ w2.heap.size) := N2.out.size
        have BL : Hid (∀ g, vv.ownBlock = some g → g < w2.heap.size) := fun g hg => (World.ownsRow.lt O2.out g hg).2
        clear k2 g2 gt G OW NX K2 N2 O2
        cases s2 with
        | none =>
          have NO : Hid (Got (lsB owB) (fun xs => ∀ x ∈ xs, Nt.Ok x) bs p none []) := HR.out.fails nt_pin HB.out HP.out HRR.out (by omega) GT.out []
          simp only [Option.isSome]
          go_wp2_with ((with_reducible refine at_store ?_); refine step_store rfl 28 _ _ rfl w2.heap.size 0 28 [.int .i64 0, .int .i64 0, .int .i64 0, .int .i64 0, .int .i64 0, .bool false] (ntL x) rfl rfl EN.out (by show 0 + 6 ≤ 6; omega) (by show _ = some 6; kernel_rfl) (ntL_one _).2 ?_; intro w3 nb gb; have K3 : Hid (RS bs R (.slice ao L cap) none w3) := KN.out.other gb (by have := SZ.out; omega) (fun h0 e => by have := HV.out h0 _ e; have := SZ.out; omega); have N3 : Hid (w.grownBy w3 (some R)) := grown_more NN.out gb SZ.out; clear nb gb)
          go_ret3
          exact ⟨none, 0, 0, [], _, _, rfl, RdS.nil _ _, (fun g hg => by cases hg), ⟨_, K3.out⟩, N3.out, .inl ⟨rfl, rfl, rfl, NO.out⟩⟩
        | some n1 =>
          obtain rfl := hy n1 rfl
          obtain ⟨ox, ex, lx, ll⟩ := GT.out.yes n1 rfl
          have px := owB_pos x ox
          rw [hL'.out] at ll
          have HS2 : Hid (RdLi owB Nt.Ok bs f0 (k + 1) (xs ++ [x]) n1) := HR.out.step GT.out rfl
          have d1 : decide ((n1 : Int) ≤ (q : Int)) = false := decide_eq_false (by omega)
          have d2 : decide ((L : Int) < (n1 : Int)) = false := decide_eq_false (by omega)
          have d3 : decide (n1 ≤ q) = false := decide_eq_false (by omega)
          have d4 : decide (L < n1) = false := decide_eq_false (by omega)
          have lq : q < n1 := by omega
          simp only [Option.isSome]
          clear ox ex lx px hy GT
          go_wp2_with (first
            | ((with_reducible refine at_store ?_); refine step_store rfl 28 _ _ rfl w2.heap.size 0 28 [.int .i64 0, .int .i64 0, .int .i64 0, .int .i64 0, .int .i64 0, .bool false] (ntL x) rfl rfl EN.out (by show 0 + 6 ≤ 6; omega) (by show _ = some 6; kernel_rfl) (ntL_one _).2 ?_; intro w3 nb gb; rw [store_all (by rfl)] at nb; have B3 : Hid (Blk w2.heap.size 28 (ntL x) w3) := nb; have K3 : Hid (RS bs R (.slice ao L cap) (some n1) w3) := KN.out.other gb (by have := SZ.out; omega) (fun h0 e => by have := HV.out h0 _ e; have := SZ.out; omega); have N3 : Hid (w.grownBy w3 (some R)) := grown_more NN.out gb SZ.out; have O3 : Hid (w3.ownsRow 0 28 6 vv (xs.map ntL).length (xs.map ntL).flatten) := World.ownsRow.kept ON.out gb (by (cases hv : vv.ownBlock with | none => exact .inl rfl | some g => exact .inr (fun e => by have := BL.out g hv; injection e with e; omega))); clear nb gb)
            | ((with_reducible refine at_loadT 28 ?_); refine step_load rfl 28 _ rfl w2.heap.size 0 rfl (ntL x) _ B3.out.all Try.underlying28 rfl (by show _ = some 6; kernel_rfl) ?_)
            | ((with_reducible refine at_slice ?_); refine step_slice1 rfl 30 28 _ rfl i0 _ 6 (by decide) Try.underlying30 hi hz0 hz1 (by decide) (ntL x) (ntL_one _).1 rfl ?_)
            | (at_builtin; refine wpList_pushS rfl (.tmp 49) (.tmp 51) 30 rfl 28 i0 _ 6 48 Try.underlying30 hi hz0 hz1 hz2 rfl (by decide) vv (xs.map ntL) (ntL x) rfl O3.out rfl (ntL_one _).1 (ntL_one _).2 LL.out.1 LL.out.2 ?_; intro v4 w4 row4 g4 o4))
          have R4 : w4.ownsRow 0 28 6 v4 ((xs ++ [x]).map ntL).length ((xs ++ [x]).map ntL).flatten := by rw [List.map_append]; exact row4
          have NW4 : ∀ g, v4.ownBlock = some g → w.heap.size ≤ g := fun g hg => by
            rcases o4 g hg with h1 | h1
            · exact NW.out g h1
            · have := N3.out.size; omega
          have S4 : ∃ st, RS bs R (.slice ao L cap) (some st) w4 := ⟨n1, K3.out.keep g4 (fun e => by have := NW.out _ e; omega) (fun h0 g hg e => by have := NW.out _ e; have := HV.out h0 g hg; omega)⟩
          have N4 : w.grownBy w4 (some R) := grown_row N3.out g4 (fun g e => NW.out g e)
          go_roundw
          case rel => exact ⟨k + 1, xs ++ [x], n1, v4, rfl, by go_num, rfl, ll, by omega, HS2.out, R4, NW4, S4, N4⟩
          case measure => simp [intOf]; omega
      · obtain rfl : k = n := by omega
        have E : Hid (Got (lsB owB) (fun xs => ∀ x ∈ xs, Nt.Ok x) bs p (some q) xs) := RdLi.ends HB.out HP.out HRR.out HR.out
        have RR : Hid (RdS 6 wr vv (xs.map ntL)) := owns_rd (fun c hc => by obtain ⟨i, _, rfl⟩ := List.mem_map.1 hc; exact (ntL_one _).1) OW.out
        obtain ⟨va, vc, evv, -, -⟩ := RR.out.len
        generalize (xs.map ntL).length = vn at evv
        subst evv
        have BL : Hid (∀ g, (Value.slice va vn vc).ownBlock = some g → w.heap.size ≤ g ∧ g < wr.heap.size) := fun g hg => ⟨NW.out g hg, (World.ownsRow.lt OW.out g hg).2⟩
        go_wp2_with fail
        go_ret3
        obtain ⟨st, hst⟩ := HS.out
        exact ⟨va, vn, vc, xs, _, _, rfl, RR.out, BL.out, ⟨_, hst⟩, NX.out, .inr ⟨rfl, q, rfl, E.out⟩⟩
set_option maxRecDepth 20000 in
theorem closNt_at (bs : List Nat) (hb : ∀ c ∈ bs, c < 256) (hl : bs.length ≤ 1000000000000) (R q0 B : Nat) (v : Value) (p : Nat) (w : World) (h : RS bs R v (some q0) w) (hp : p ≤ bs.length) (hB : w.cell? ⟨B, 0, none⟩ = some (owedF R)) :
    Calls Try.prog 109 #[v, .int .i64 (p : Int), .pointer (some ⟨B, 0, none⟩)] w (LsAns 6 ntL owB Nt.Ok bs R v p w) := by
  have C : Hid (Calls Try.prog 110 #[v, .int .i64 (p : Int), .func (.func 85) #[.pointer (some ⟨R, 0, none⟩)] #[]] w (LsAns 6 ntL owB Nt.Ok bs R v p w)) := listNt_at bs hb hl R q0 v p w h hp
  obtain ⟨ao, cap, ev, _, _⟩ := h.rd.len
  generalize (bs.map bv).length = L at ev
  subst ev
  clear h hb hl hp
  unfold owedF at hB
  go_enter Try.func109, Try.ntmps109
  go_wp2_with fail
  refine C.out.mono ?_
  rintro e w1 ⟨a, n, c, xs, y, k, rfl, r1, b1, s1, g1, D1⟩
  have KK : Hid (LsAns 6 ntL owB Nt.Ok bs R (.slice ao L cap) p w (.returned (.tuple #[.slice a n c, .int .i64 y, .bool k])) w1) := ⟨a, n, c, xs, y, k, rfl, r1, b1, s1, g1, D1⟩
  clear r1 b1 s1 g1 D1
  go_wp2_with fail
  go_ret3
  exact KK.out
set_option maxRecDepth 20000 in
set_option maxHeartbeats 1000000 in
theorem takeNt_at (bs : List Nat) (hb : ∀ c ∈ bs, c < 256) (hl : bs.length ≤ 1000000000000) (R B : Nat) (v : Value) (st : Option Nat) (w : World) (h : RS bs R v st w) (hB : w.cell? ⟨B, 0, none⟩ = some (owedF R)) :
    Calls Try.prog 108 #[.pointer (some ⟨R, 0, none⟩), .func (.func 109) #[] #[.pointer (some ⟨B, 0, none⟩)]] w (TkAns 6 ntL owB Nt.Ok bs R v st w) := by
  have c0 := h.c0
  have c2 := h.c2
  obtain ⟨p, c1, hp⟩ := h.c1
  have hR := h.lt
  cases st with
  | none =>
    simp only [Option.isNone] at c2
    have HH : Hid (RS bs R v none w) := h
    clear h hp hB
    go_enter Try.func108, Try.ntmps108
    go_wp2_with fail
    go_ret
    exact ⟨none, 0, 0, [], none, rfl, RdS.nil _ _, (fun g hg => by cases hg), HH.out, grownBy_refl _ _, fun _ => rfl, (fun p h => by cases h)⟩
  | some q =>
    obtain rfl := hp q rfl
    have hq := h.le q rfl
    simp only [Option.isNone] at c2
    have C : Hid (∀ n, Calls Try.prog 109 #[v, .int .i64 (q : Int), .pointer (some ⟨B, 0, none⟩)] (w.drewN n) (LsAns 6 ntL owB Nt.Ok bs R v q (w.drewN n))) := fun n => closNt_at bs hb hl R q B v q (w.drewN n) (h.drewN n) hq hB
    clear h hp hB hq hb hl
    go_enter Try.func108, Try.ntmps108
    go_wp2_with fail
    go_cut [6, 7, 8] from 14 to 27 (fun x y z wx => ∃ a n c xs y' k, x = .slice a n c ∧ y = .int .i64 y' ∧ z = .bool k ∧ Hid (RdS 6 wx (.slice a n c) (xs.map ntL)) ∧ Hid (∀ g, (Value.slice a n c).ownBlock = some g → w.heap.size ≤ g ∧ g < wx.heap.size) ∧ Hid (∃ st, RS bs R v st wx) ∧ w.grownBy wx (some R) ∧ Hid ((k = false ∧ xs = [] ∧ y' = 0 ∧ Got (lsB owB) (fun xs => ∀ x ∈ xs, Nt.Ok x) bs q none xs) ∨ (k = true ∧ ∃ q1 : Nat, y' = (q1 : Int) ∧ Got (lsB owB) (fun xs => ∀ x ∈ xs, Nt.Ok x) bs q (some q1) xs)))
    case first =>
      go_region_with (go_at_call 109; refine (C.out _).mono ?_; rintro e w1 ⟨a, n, c, xs, y, k, rfl, r1, b1, s1, g1, D1⟩)
      all_goals
        go_wp2_with fail
        go_meet
        exact ⟨a, n, c, xs, y, k, rfl, rfl, rfl, r1, b1, s1, ⟨g1.os, g1.tape, g1.output, g1.size, g1.block⟩, D1⟩
    case rest =>
      obtain ⟨a, n, c, xs, y', k, rfl, rfl, rfl, r1, b1, s1, g1, D1⟩ := hcut
      obtain ⟨st, s⟩ := s1.out
      obtain ⟨p1, k1, _⟩ := s.c1
      have k2 := s.c2
      have fz1 := s.fz 1
      have fz2 := s.fz 2
      have PT : Hid (∀ st' : Option Nat, (∀ q, st' = some q → y' = (q : Int)) → (∀ q, st' = some q → q ≤ bs.length) → RS bs R v st' ((wc.setCell ⟨R, 1, none⟩ (.int .i64 y')).setCell ⟨R, 2, none⟩ (.bool st'.isNone)) ∧ wc.grownBy ((wc.setCell ⟨R, 1, none⟩ (.int .i64 y')).setCell ⟨R, 2, none⟩ (.bool st'.isNone)) (some R)) := fun st' h1 h2 => s.put (st' := st') 0 y' h1 h2
      clear s s1 C
      rcases D1.out with ⟨rfl, rfl, rfl, GG⟩ | ⟨rfl, q1, rfl, GG⟩
      · obtain ⟨F1, F2⟩ := PT.out none (fun q h => by cases h) (fun q h => by cases h)
        simp only [Option.isNone] at F1 F2
        have HGG : Hid (Got (lsB owB) (fun xs => ∀ x ∈ xs, Nt.Ok x) bs q none []) := GG
        have F1' : Hid (RS bs R v none ((wc.setCell ⟨R, 1, none⟩ (.int .i64 0)).setCell ⟨R, 2, none⟩ (.bool true))) := F1
        have F2' : Hid (w.grownBy ((wc.setCell ⟨R, 1, none⟩ (.int .i64 0)).setCell ⟨R, 2, none⟩ (.bool true)) (some R)) := grownBy_trans g1 F2
        clear F1 F2 PT D1 GG
        go_wp2_with fail
        go_ret
        exact ⟨a, n, c, [], none, rfl, r1.out.grown (grownBy_trans (setCell_grown _ R 1 _) (setCell_grown _ R 2 _)) (fun g hg e => by have := b1.out g hg; injection e with e; omega), (fun g hg => by have := b1.out g hg; simp; omega), F1'.out, F2'.out, (fun h => by cases h), (fun p h => by injection h with h; subst h; exact HGG.out)⟩
      · have LE : q1 ≤ bs.length := (GG.yes q1 rfl).2.2.2
        obtain ⟨F1, F2⟩ := PT.out (some q1) (fun q h => by cases h; rfl) (fun q h => by cases h; exact LE)
        simp only [Option.isNone] at F1 F2
        have HGG : Hid (Got (lsB owB) (fun xs => ∀ x ∈ xs, Nt.Ok x) bs q (some q1) xs) := GG
        have F1' : Hid (RS bs R v (some q1) ((wc.setCell ⟨R, 1, none⟩ (.int .i64 (q1 : Int))).setCell ⟨R, 2, none⟩ (.bool false))) := F1
        have F2' : Hid (w.grownBy ((wc.setCell ⟨R, 1, none⟩ (.int .i64 (q1 : Int))).setCell ⟨R, 2, none⟩ (.bool false)) (some R)) := grownBy_trans g1 F2
        clear F1 F2 PT D1 GG LE
        go_wp2_with fail
        go_ret
        exact ⟨a, n, c, xs, some q1, rfl, r1.out.grown (grownBy_trans (setCell_grown _ R 1 _) (setCell_grown _ R 2 _)) (fun g hg e => by have := b1.out g hg; injection e with e; omega), (fun g hg => by have := b1.out g hg; simp; omega), F1'.out, F2'.out, (fun h => by cases h), (fun p h => by injection h with h; subst h; exact HGG.out)⟩
set_option maxRecDepth 20000 in
set_option maxHeartbeats 1000000 in
theorem takeListNt_at (bs : List Nat) (hb : ∀ c ∈ bs, c < 256) (hl : bs.length ≤ 1000000000000) (R : Nat) (v : Value) (st : Option Nat) (w : World) (h : RS bs R v st w) :
    Calls Try.prog 84 #[.pointer (some ⟨R, 0, none⟩), owedF R] w (TkAns 6 ntL owB Nt.Ok bs R v st w) := by
  have C : Hid (∀ w' B, Below w.heap.size w w' → w'.cell? ⟨B, 0, none⟩ = some (owedF R) → Calls Try.prog 108 #[.pointer (some ⟨R, 0, none⟩), .func (.func 109) #[] #[.pointer (some ⟨B, 0, none⟩)]] w' (TkAns 6 ntL owB Nt.Ok bs R v st w')) := fun w' B h1 h2 => takeNt_at bs hb hl R B v st w' (h.below h1) h2
  clear h hb hl
  unfold owedF at *
  go_enter Try.func84, Try.ntmps84
  go_wp2_with fail
  refine (C.out _ _ (below_alloc w _) ((Blk.new _ [_] w).cell 0 _ rfl)).mono ?_
  rintro e w1 ⟨a, n, c, xs, st', rfl, r1, b1, s1, g1, n1, t1⟩
  have F : Hid (TkAns 6 ntL owB Nt.Ok bs R v st w (.returned (.slice a n c)) w1) := ⟨a, n, c, xs, st', rfl, r1, (fun g hg => by have := b1 g hg; simp at this; omega), s1, grownBy_trans (grownBy_below (below_alloc w _) _) g1, n1, t1⟩
  clear r1 b1 s1 g1 n1 t1
  go_wp2_with fail
  go_ret
  exact F.out
end Go.Proofs.Ytdbjjeaflfoppaa
