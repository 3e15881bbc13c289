/-
  Ours: lists of loans, read (gen_wrd6.py).
-/
import Derived.Test.YtdbjjeaflfoppaaWirRd5
namespace Go.Proofs.Ytdbjjeaflfoppaa
open Go.RowKit WsM

theorem lnB_pos (l : Ln) (_ : l.Ok) : 0 < (lnB l).length := by unfold lnB; have := putI_pos l.id; rw [List.length_append]; omega
theorem TwI.apart {wb E : Nat} {wr w' : World} {v : Value} {ls : List Ln} {pvs : List Value} (h : TwI wb wr v ls pvs) (gr : wr.grownBy w' (some E)) (h1 : ∀ g, v.ownBlock = some g → g ≠ E) (h2 : ∀ i, i < ls.length → ∀ g, (pvs.getD i .nilFunc).ownBlock = some g → g ≠ E) : TwI wb w' v ls pvs :=
  ⟨h.len, World.ownsRow.kept h.row gr (by
    cases hv : v.ownBlock with
    | none => exact .inl rfl
    | some g => exact .inr (fun e => h1 g hv (by injection e))), h.new, fun i hi => ⟨(h.pl i hi).1.grown gr (fun g hg e => h2 i hi g hg (by injection e with e; exact e.symm)), (h.pl i hi).2⟩, h.ap, fun g hg => Nat.lt_of_lt_of_le (h.lt g hg) gr.size, fun i hi g hg => Nat.lt_of_lt_of_le (h.pb i hi g hg) gr.size, h.pn⟩
def LlAns (bs : List Nat) (R : Nat) (v : Value) (p : Nat) (w : World) (e : Ending) (w' : World) : Prop :=
  ∃ (a : Option Addr) (n c : Nat) (xs : List Ln) (pvs : List Value) (y : Int) (k : Bool), e = .returned (.tuple #[.slice a n c, .int .i64 y, .bool k]) ∧ TwI w.heap.size w' (.slice a n c) xs pvs ∧ (∃ st, RS bs R v st w') ∧ w.grownBy w' (some R) ∧
    ((k = false ∧ xs = [] ∧ y = 0 ∧ Got (lsB lnB) (fun xs => ∀ x ∈ xs, Ln.Ok x) bs p none xs) ∨ (k = true ∧ ∃ q : Nat, y = (q : Int) ∧ Got (lsB lnB) (fun xs => ∀ x ∈ xs, Ln.Ok x) bs p (some q) xs))
def TlAns (bs : List Nat) (R : Nat) (v : Value) (st : Option Nat) (w : World) (e : Ending) (w' : World) : Prop :=
  ∃ (a : Option Addr) (n c : Nat) (xs : List Ln) (pvs : List Value) (st' : Option Nat), e = .returned (.slice a n c) ∧ TwI w.heap.size w' (.slice a n c) xs pvs ∧ RS bs R v st' w' ∧ w.grownBy w' (some R) ∧ Stg (lsB lnB) (fun xs => ∀ x ∈ xs, Ln.Ok x) bs st st' xs
abbrev loanF (R : Nat) : Value := .func (.func 54) #[.pointer (some ⟨R, 0, none⟩)] #[]
set_option maxRecDepth 20000 in
set_option maxHeartbeats 4000000 in
theorem listLn_at (bs : List Nat) (hb : ∀ c ∈ bs, c < 256) (hl : bs.length ≤ 100000000000) (R q0 : Nat) (v : Value) (p : Nat) (w : World) (h : RS bs R v (some q0) w) (hp : p ≤ bs.length) :
    Calls Try.prog 107 #[v, .int .i64 (p : Int), loanF R] w (LlAns bs R v p w) := by
  obtain ⟨i0, hi, hz0, hz1, hz2⟩ := info_parts infoL46
  have C : Hid (Calls Try.prog 127 #[v, .int .i64 (p : Int)] w fun e w' => e = lenAns (lenR bs (p : Int)) ∧ w' = w) := length_at bs p v w hb (by omega) (by omega) (by omega) h.rd
  have hR := h.lt
  have HV : Hid (0 < bs.length → ∀ g, v.ownBlock = some g → g < w.heap.size) := fun h0 g e => Rd.block h.rd (by rw [List.length_map]; exact h0) e
  have H0 : Hid (∃ st, RS bs R v (some st) w) := ⟨_, h⟩
  have HG : Hid (∀ w' q1 (q : Nat), RS bs R v (some q1) w' → q ≤ bs.length → Calls Try.prog 54 #[.pointer (some ⟨R, 0, none⟩), v, .int .i64 (q : Int)] w' (LnAns bs R v q w')) := fun w' q1 q h1 h2 => loan_at bs hb (by omega) R v q w' (Seeks.of_rs h1 h2)
  obtain ⟨L, hL⟩ : ∃ L, bs.length = L := ⟨_, rfl⟩
  obtain ⟨ao, cap, ev, hcap, hn⟩ := h.rd.len
  rw [List.length_map, hL] at ev hcap
  subst ev
  have HB : Hid (∀ c ∈ bs, c < 256) := hb
  have HP : Hid (p ≤ bs.length) := hp
  unfold loanF
  cases hr : lenR bs (p : Int) with
  | none =>
    have NO : Hid (Got (lsB lnB) (fun xs => ∀ x ∈ xs, Ln.Ok x) bs p none []) := ⟨(fun q h => by cases h), fun _ ys r oy e => lsB_none lnB_pos hb (by omega) hp hr ys r oy e⟩
    rw [hr] at C
    clear hr h HG hb
    go_enter Try.func107, Try.ntmps107
    go_wp2_with fail
    refine C.out.mono ?_
    rintro e w1 ⟨rfl, hw⟩; rw [hw]; clear hw w1
    simp only [lenAns]
    go_wp2_with fail
    go_ret3
    obtain ⟨st, hst⟩ := H0.out
    exact ⟨none, 0, 0, [], [], _, _, rfl, TwI.nil _ _, ⟨_, hst⟩, grownBy_refl _ _, .inl ⟨rfl, rfl, rfl, NO.out⟩⟩
  | some q =>
    obtain ⟨n, f0⟩ := q
    obtain ⟨_, f1, f2, f3⟩ := lenR_le hb hr
    have HRR : Hid (lenR bs (p : Int) = some (n, f0)) := hr
    rw [hr] at C
    rw [hL] at hl f3
    have hL' : Hid (bs.length = L) := hL
    clear hr h hL hb hp
    go_enter Try.func107, Try.ntmps107
    go_wp2_with fail
    refine C.out.mono ?_
    rintro e w1 ⟨rfl, hw⟩; rw [hw]; clear hw w1
    simp only [lenAns]
    go_wp2_with fail
    go_loopw [12, 10, 26] (fun vl vq vk wr => ∃ (k : Nat) (xs : List Ln) (pvs : List Value) (q : Nat) (vv : Value), vv = vl ∧ vk = .int .i64 (k : Int) ∧ vq = .int .i64 (q : Int) ∧ q ≤ L ∧ k ≤ n ∧ Hid (RdLi lnB Ln.Ok bs f0 k xs q) ∧ Hid (TwI w.heap.size wr vv xs pvs) ∧ Hid (∃ st, RS bs R (.slice ao L cap) (some st) wr) ∧ Hid (w.grownBy wr (some R))) (fun _ _ vk _ => n - (intOf vk).toNat)
    case atStart => exact ⟨0, [], [], f0, _, rfl, rfl, rfl, by omega, by omega, RdLi.start (by rw [hL'.out]; omega), TwI.nil _ _, H0, grownBy_refl _ _⟩
    case round =>
      obtain ⟨k, xs, pvs, q, vv, rfl, rfl, rfl, q1, hk, HR, TW, HS, NX⟩ := hrel
      by_cases hlt : (k : Int) < (n : Int)
      · obtain ⟨st, hst⟩ := HS.out
        have G := HG.out _ st q hst (by rw [hL'.out]; exact q1)
        have lx := HR.out.len
        have LZ : Hid ((List.zipWith lnL xs pvs).length = k) := by show _ = _; rw [zip_len TW.out.len]; exact lx
        have l1 : (List.zipWith lnL xs pvs).length + 1 ≤ maxLen := by rw [LZ.out]; unfold maxLen; omega
        have l2 : ((List.zipWith lnL xs pvs).length + 1) * 384 ≤ 140737488355328 := by rw [LZ.out]; omega
        have LLm : Hid ((List.zipWith lnL xs pvs).length + 1 ≤ maxLen ∧ ((List.zipWith lnL xs pvs).length + 1) * 384 ≤ 140737488355328) := ⟨l1, l2⟩
        clear lx hst l1 l2
        go_wp2_with fail
        refine G.mono ?_
        rintro e w2 ⟨x, pa, pn, pc, y, s2, rfl, hy, k2, g2, rp, pb, gt⟩
        have N2 : Hid (w.grownBy w2 (some R)) := grownBy_trans NX.out g2
        have T2 : Hid (TwI w.heap.size w2 vv xs pvs) := TW.out.row_grown g2 hR
        have GT : Hid (Got lnB Ln.Ok bs q s2 x) := gt
        have PA : Hid (∀ g, (Value.slice pa pn pc).ownBlock = some g → vv.ownBlock ≠ some g ∧ g < w2.heap.size ∧ w.heap.size ≤ g) := fun g hg => ⟨fun e => by have := TW.out.lt g e; have := pb g hg; omega, (pb g hg).2, by have := (pb g hg).1; have := NX.out.size; omega⟩
        have EN : Hid (Blk w2.heap.size 65 [.int .i64 0, .int .i64 0, .int .i64 0, .int .i64 0, .int .i64 0, .int .i64 0, .int .i64 0, .slice none 0 0, .int .i64 0, .int .i64 0, .int .i64 0, .int .i64 0, .int .i64 0, .int .i64 0, .int .i64 0, .int .i64 0, .int .i64 0, .int .i64 0, .int .i64 0, .int .i64 0, .int .i64 0, .bool false, .int .i64 0, .int .i64 0, .int .i64 0, .int .i64 0, .int .i64 0, .int .i64 0, .int .i64 0, .int .i64 0, .int .i64 0, .int .i64 0, .int .i64 0, .int .i64 0, .int .i64 0, .int .i64 0, .int .i64 0, .int .i64 0, .int .i64 0, .int .i64 0, .int .i64 0, .int .i64 0, .int .i64 0, .bool false, .int .i64 0, .int .i64 0] (w2.alloc (.cells #[.int .i64 0, .int .i64 0, .int .i64 0, .int .i64 0, .int .i64 0, .int .i64 0, .int .i64 0, .slice none 0 0, .int .i64 0, .int .i64 0, .int .i64 0, .int .i64 0, .int .i64 0, .int .i64 0, .int .i64 0, .int .i64 0, .int .i64 0, .int .i64 0, .int .i64 0, .int .i64 0, .int .i64 0, .bool false, .int .i64 0, .int .i64 0, .int .i64 0, .int .i64 0, .int .i64 0, .int .i64 0, .int .i64 0, .int .i64 0, .int .i64 0, .int .i64 0, .int .i64 0, .int .i64 0, .int .i64 0, .int .i64 0, .int .i64 0, .int .i64 0, .int .i64 0, .int .i64 0, .int .i64 0, .int .i64 0, .int .i64 0, .bool false, .int .i64 0, .int .i64 0] 65))) := Blk.new _ _ _
        have KN : Hid (RS bs R (.slice ao L cap) s2 (w2.alloc (.cells #[.int .i64 0, .int .i64 0, .int .i64 0, .int .i64 0, .int .i64 0, .int .i64 0, .int .i64 0, .slice none 0 0, .int .i64 0, .int .i64 0, .int .i64 0, .int .i64 0, .int .i64 0, .int .i64 0, .int .i64 0, .int .i64 0, .int .i64 0, .int .i64 0, .int .i64 0, .int .i64 0, .int .i64 0, .bool false, .int .i64 0, .int .i64 0, .int .i64 0, .int .i64 0, .int .i64 0, .int .i64 0, .int .i64 0, .int .i64 0, .int .i64 0, .int .i64 0, .int .i64 0, .int .i64 0, .int .i64 0, .int .i64 0, .int .i64 0, .int .i64 0, .int .i64 0, .int .i64 0, .int .i64 0, .int .i64 0, .int .i64 0, .bool false, .int .i64 0, .int .i64 0] 65))) := k2.below (below_alloc _ _)
        have NN : Hid (w.grownBy (w2.alloc (.cells #[.int .i64 0, .int .i64 0, .int .i64 0, .int .i64 0, .int .i64 0, .int .i64 0, .int .i64 0, .slice none 0 0, .int .i64 0, .int .i64 0, .int .i64 0, .int .i64 0, .int .i64 0, .int .i64 0, .int .i64 0, .int .i64 0, .int .i64 0, .int .i64 0, .int .i64 0, .int .i64 0, .int .i64 0, .bool false, .int .i64 0, .int .i64 0, .int .i64 0, .int .i64 0, .int .i64 0, .int .i64 0, .int .i64 0, .int .i64 0, .int .i64 0, .int .i64 0, .int .i64 0, .int .i64 0, .int .i64 0, .int .i64 0, .int .i64 0, .int .i64 0, .int .i64 0, .int .i64 0, .int .i64 0, .int .i64 0, .int .i64 0, .bool false, .int .i64 0, .int .i64 0] 65)) (some R)) := grownBy_trans N2.out (grownBy_below (below_alloc _ _) _)
        have TN : Hid (TwI w.heap.size (w2.alloc (.cells #[.int .i64 0, .int .i64 0, .int .i64 0, .int .i64 0, .int .i64 0, .int .i64 0, .int .i64 0, .slice none 0 0, .int .i64 0, .int .i64 0, .int .i64 0, .int .i64 0, .int .i64 0, .int .i64 0, .int .i64 0, .int .i64 0, .int .i64 0, .int .i64 0, .int .i64 0, .int .i64 0, .int .i64 0, .bool false, .int .i64 0, .int .i64 0, .int .i64 0, .int .i64 0, .int .i64 0, .int .i64 0, .int .i64 0, .int .i64 0, .int .i64 0, .int .i64 0, .int .i64 0, .int .i64 0, .int .i64 0, .int .i64 0, .int .i64 0, .int .i64 0, .int .i64 0, .int .i64 0, .int .i64 0, .int .i64 0, .int .i64 0, .bool false, .int .i64 0, .int .i64 0] 65)) vv xs pvs) := T2.out.below (below_alloc _ _)
        have PN : Hid (RdS 4 (w2.alloc (.cells #[.int .i64 0, .int .i64 0, .int .i64 0, .int .i64 0, .int .i64 0, .int .i64 0, .int .i64 0, .slice none 0 0, .int .i64 0, .int .i64 0, .int .i64 0, .int .i64 0, .int .i64 0, .int .i64 0, .int .i64 0, .int .i64 0, .int .i64 0, .int .i64 0, .int .i64 0, .int .i64 0, .int .i64 0, .bool false, .int .i64 0, .int .i64 0, .int .i64 0, .int .i64 0, .int .i64 0, .int .i64 0, .int .i64 0, .int .i64 0, .int .i64 0, .int .i64 0, .int .i64 0, .int .i64 0, .int .i64 0, .int .i64 0, .int .i64 0, .int .i64 0, .int .i64 0, .int .i64 0, .int .i64 0, .int .i64 0, .int .i64 0, .bool false, .int .i64 0, .int .i64 0] 65)) (.slice pa pn pc) (x.pl.map insL)) := rp.later (below_alloc _ _)
        have SZ : Hid (w.heap.size ≤ w2.heap.size) := N2.out.size
        have BL : Hid (∀ g, vv.ownBlock = some g → g < w2.heap.size) := T2.out.lt
        have BP : Hid (∀ i, i < xs.length → ∀ g, (pvs.getD i .nilFunc).ownBlock = some g → g < w2.heap.size) := T2.out.pb
        have O1 : Hid ((lnL x (.slice pa pn pc)).length = 46 ∧ ∀ u ∈ lnL x (.slice pa pn pc), u.oneCell' = true) := lnL_one rfl
        clear k2 g2 gt G NX N2 T2 rp pb TW
        cases s2 with
        | none =>
          have NO : Hid (Got (lsB lnB) (fun xs => ∀ x ∈ xs, Ln.Ok x) bs p none []) := HR.out.fails ln_pin HB.out HP.out HRR.out (by omega) GT.out []
          simp only [Option.isSome]
          go_wp2_with ((with_reducible refine at_store ?_); refine step_store rfl 65 _ _ rfl w2.heap.size 0 65 [.int .i64 0, .int .i64 0, .int .i64 0, .int .i64 0, .int .i64 0, .int .i64 0, .int .i64 0, .slice none 0 0, .int .i64 0, .int .i64 0, .int .i64 0, .int .i64 0, .int .i64 0, .int .i64 0, .int .i64 0, .int .i64 0, .int .i64 0, .int .i64 0, .int .i64 0, .int .i64 0, .int .i64 0, .bool false, .int .i64 0, .int .i64 0, .int .i64 0, .int .i64 0, .int .i64 0, .int .i64 0, .int .i64 0, .int .i64 0, .int .i64 0, .int .i64 0, .int .i64 0, .int .i64 0, .int .i64 0, .int .i64 0, .int .i64 0, .int .i64 0, .int .i64 0, .int .i64 0, .int .i64 0, .int .i64 0, .int .i64 0, .bool false, .int .i64 0, .int .i64 0] (lnL x (.slice pa pn pc)) rfl rfl EN.out (by show 0 + 46 ≤ 46; omega) (szLn O1.out.1) O1.out.2 ?_; intro w3 nb gb; have K3 : Hid (RS bs R (.slice ao L cap) none w3) := KN.out.other gb (by have := SZ.out; omega) (fun h0 e => by have := HV.out h0 _ e; have := SZ.out; omega); have N3 : Hid (w.grownBy w3 (some R)) := grown_more NN.out gb SZ.out; clear nb gb)
          go_ret3
          exact ⟨none, 0, 0, [], [], _, _, rfl, TwI.nil _ _, ⟨_, K3.out⟩, N3.out, .inl ⟨rfl, rfl, rfl, NO.out⟩⟩
        | some n1 =>
          obtain rfl := hy n1 rfl
          obtain ⟨ox, ex, lx, ll⟩ := GT.out.yes n1 rfl
          have px := lnB_pos x ox
          rw [hL'.out] at ll
          have HS2 : Hid (RdLi lnB Ln.Ok bs f0 (k + 1) (xs ++ [x]) n1) := HR.out.step GT.out rfl
          have d1 : decide ((n1 : Int) ≤ (q : Int)) = false := decide_eq_false (by omega)
          have d2 : decide ((L : Int) < (n1 : Int)) = false := decide_eq_false (by omega)
          have d3 : decide (n1 ≤ q) = false := decide_eq_false (by omega)
          have d4 : decide (L < n1) = false := decide_eq_false (by omega)
          have lq : q < n1 := by omega
          simp only [Option.isSome]
          clear ox ex lx px hy GT
          go_wp2_with (first
            | ((with_reducible refine at_store ?_); refine step_store rfl 65 _ _ rfl w2.heap.size 0 65 [.int .i64 0, .int .i64 0, .int .i64 0, .int .i64 0, .int .i64 0, .int .i64 0, .int .i64 0, .slice none 0 0, .int .i64 0, .int .i64 0, .int .i64 0, .int .i64 0, .int .i64 0, .int .i64 0, .int .i64 0, .int .i64 0, .int .i64 0, .int .i64 0, .int .i64 0, .int .i64 0, .int .i64 0, .bool false, .int .i64 0, .int .i64 0, .int .i64 0, .int .i64 0, .int .i64 0, .int .i64 0, .int .i64 0, .int .i64 0, .int .i64 0, .int .i64 0, .int .i64 0, .int .i64 0, .int .i64 0, .int .i64 0, .int .i64 0, .int .i64 0, .int .i64 0, .int .i64 0, .int .i64 0, .int .i64 0, .int .i64 0, .bool false, .int .i64 0, .int .i64 0] (lnL x (.slice pa pn pc)) rfl rfl EN.out (by show 0 + 46 ≤ 46; omega) (szLn O1.out.1) O1.out.2 ?_; intro w3 nb gb; rw [store_all (by rfl)] at nb; have B3 : Hid (Blk w2.heap.size 65 (lnL x (.slice pa pn pc)) w3) := nb; have K3 : Hid (RS bs R (.slice ao L cap) (some n1) w3) := KN.out.other gb (by have := SZ.out; omega) (fun h0 e => by have := HV.out h0 _ e; have := SZ.out; omega); have N3 : Hid (w.grownBy w3 (some R)) := grown_more NN.out gb SZ.out; have T3 : Hid (TwI w.heap.size w3 vv xs pvs) := TN.out.apart gb (fun g hg e => by have := BL.out g hg; omega) (fun i hi g hg e => by have := BP.out i hi g hg; omega); have P3 : Hid (RdS 4 w3 (.slice pa pn pc) (x.pl.map insL)) := PN.out.grown gb (fun g hg e => by have := (PA.out g hg).2.1; injection e with e; omega); have Z3 : Hid (w2.heap.size < w3.heap.size) := nb.lt; clear nb gb)
            | ((with_reducible refine at_loadT 65 ?_); refine step_load rfl 65 _ rfl w2.heap.size 0 rfl (lnL x (.slice pa pn pc)) _ B3.out.all Try.underlying65 rfl (szLn O1.out.1) ?_)
            | ((with_reducible refine at_slice ?_); refine step_slice1 rfl 29 65 _ rfl i0 _ 46 (by decide) Try.underlying29 hi hz0 hz1 (by decide) (lnL x (.slice pa pn pc)) O1.out.1 rfl ?_)
            | (at_builtin; refine wpList_pushS rfl (.tmp 49) (.tmp 51) 29 rfl 65 i0 _ 46 384 Try.underlying29 hi hz0 hz1 hz2 rfl (by decide) vv (List.zipWith lnL xs pvs) (lnL x (.slice pa pn pc)) rfl T3.out.row rfl O1.out.1 O1.out.2 LLm.out.1 LLm.out.2 ?_; intro v4 w4 row4 g4 o4))
          have T4 : TwI w.heap.size w4 v4 (xs ++ [x]) (pvs ++ [.slice pa pn pc]) := T3.out.push (by have := SZ.out; have := Z3.out; omega) P3.out rfl (fun g hg => (PA.out g hg).1) (fun g hg => by have := (PA.out g hg).2.1; have := Z3.out; omega) (fun g hg => (PA.out g hg).2.2) row4 g4 o4
          have NW := T3.out.new
          have S4 : ∃ st, RS bs R (.slice ao L cap) (some st) w4 := ⟨n1, K3.out.keep g4 (fun e => by have := NW _ e; omega) (fun h0 g hg e => by have := NW _ e; have := HV.out h0 g hg; omega)⟩
          have N4 : w.grownBy w4 (some R) := grown_row N3.out g4 (fun g e => NW g e)
          go_roundw
          case rel => exact ⟨k + 1, xs ++ [x], _, n1, v4, rfl, by go_num, rfl, ll, by omega, HS2.out, T4, S4, N4⟩
          case measure => simp [intOf]; omega
      · obtain rfl : k = n := by omega
        have E : Hid (Got (lsB lnB) (fun xs => ∀ x ∈ xs, Ln.Ok x) bs p (some q) xs) := RdLi.ends HB.out HP.out HRR.out HR.out
        obtain ⟨va, vc, evv, -, -⟩ := (owns_rd (zip_K xs pvs) TW.out.row).len
        generalize (List.zipWith lnL xs pvs).length = vn at evv
        subst evv
        go_wp2_with fail
        go_ret3
        obtain ⟨st, hst⟩ := HS.out
        exact ⟨va, vn, vc, xs, pvs, _, _, rfl, TW.out, ⟨_, hst⟩, NX.out, .inr ⟨rfl, q, rfl, E.out⟩⟩
set_option maxRecDepth 20000 in
theorem closLn_at (bs : List Nat) (hb : ∀ c ∈ bs, c < 256) (hl : bs.length ≤ 100000000000) (R q0 B : Nat) (v : Value) (p : Nat) (w : World) (h : RS bs R v (some q0) w) (hp : p ≤ bs.length) (hB : w.cell? ⟨B, 0, none⟩ = some (loanF R)) :
    Calls Try.prog 106 #[v, .int .i64 (p : Int), .pointer (some ⟨B, 0, none⟩)] w (LlAns bs R v p w) := by
  have C : Hid (Calls Try.prog 107 #[v, .int .i64 (p : Int), .func (.func 54) #[.pointer (some ⟨R, 0, none⟩)] #[]] w (LlAns bs R v p w)) := listLn_at bs hb hl R q0 v p w h hp
  obtain ⟨ao, cap, ev, _, _⟩ := h.rd.len
  generalize (bs.map bv).length = L at ev
  subst ev
  clear h hb hl hp
  unfold loanF at hB
  go_enter Try.func106, Try.ntmps106
  go_wp2_with fail
  refine C.out.mono ?_
  rintro e w1 ⟨a, n, c, xs, pvs, y, k, rfl, r1, s1, g1, D1⟩
  have KK : Hid (LlAns bs R (.slice ao L cap) p w (.returned (.tuple #[.slice a n c, .int .i64 y, .bool k])) w1) := ⟨a, n, c, xs, pvs, y, k, rfl, r1, s1, g1, D1⟩
  clear r1 s1 g1 D1
  go_wp2_with fail
  go_ret3
  exact KK.out
theorem TwI.drewN {wb : Nat} {wr w' : World} {v : Value} {ls : List Ln} {pvs : List Value} {R : Nat} (h : TwI wb wr v ls pvs) (gr : wr.grownBy w' (some R)) (hR : R < wb) : TwI wb w' v ls pvs := h.row_grown gr hR
set_option maxRecDepth 20000 in
set_option maxHeartbeats 1000000 in
theorem takeLn_at (bs : List Nat) (hb : ∀ c ∈ bs, c < 256) (hl : bs.length ≤ 100000000000) (R B : Nat) (v : Value) (st : Option Nat) (w : World) (h : RS bs R v st w) (hB : w.cell? ⟨B, 0, none⟩ = some (loanF R)) :
    Calls Try.prog 105 #[.pointer (some ⟨R, 0, none⟩), .func (.func 106) #[] #[.pointer (some ⟨B, 0, none⟩)]] w (TlAns bs R v st w) := by
  have c0 := h.c0
  have c2 := h.c2
  obtain ⟨p, c1, hp⟩ := h.c1
  have hR := h.lt
  cases st with
  | none =>
    simp only [Option.isNone] at c2
    have HH : Hid (RS bs R v none w) := h
    clear h hp hB
    go_enter Try.func105, Try.ntmps105
    go_wp2_with fail
    go_ret
    exact ⟨none, 0, 0, [], [], none, rfl, TwI.nil _ _, HH.out, grownBy_refl _ _, fun _ => rfl, (fun p h => by cases h)⟩
  | some q =>
    obtain rfl := hp q rfl
    have hq := h.le q rfl
    simp only [Option.isNone] at c2
    have C : Hid (∀ n, Calls Try.prog 106 #[v, .int .i64 (q : Int), .pointer (some ⟨B, 0, none⟩)] (w.drewN n) (LlAns bs R v q (w.drewN n))) := fun n => closLn_at bs hb hl R q B v q (w.drewN n) (h.drewN n) hq hB
    clear h hp hB hq hb hl
    go_enter Try.func105, Try.ntmps105
    go_wp2_with fail
    go_cut [6, 7, 8] from 14 to 27 (fun x y z wx => ∃ a n c xs pvs y' k, x = .slice a n c ∧ y = .int .i64 y' ∧ z = .bool k ∧ Hid (TwI w.heap.size wx (.slice a n c) xs pvs) ∧ Hid (∃ st, RS bs R v st wx) ∧ w.grownBy wx (some R) ∧ Hid ((k = false ∧ xs = [] ∧ y' = 0 ∧ Got (lsB lnB) (fun xs => ∀ x ∈ xs, Ln.Ok x) bs q none xs) ∨ (k = true ∧ ∃ q1 : Nat, y' = (q1 : Int) ∧ Got (lsB lnB) (fun xs => ∀ x ∈ xs, Ln.Ok x) bs q (some q1) xs)))
    case first =>
      go_region_with (go_at_call 106; refine (C.out _).mono ?_; rintro e w1 ⟨a, n, c, xs, pvs, y, k, rfl, r1, s1, g1, D1⟩)
      all_goals
        go_wp2_with fail
        go_meet
        exact ⟨a, n, c, xs, pvs, y, k, rfl, rfl, rfl, r1, s1, ⟨g1.os, g1.tape, g1.output, g1.size, g1.block⟩, D1⟩
    case rest =>
      obtain ⟨a, n, c, xs, pvs, y', k, rfl, rfl, rfl, r1, s1, g1, D1⟩ := hcut
      obtain ⟨st, s⟩ := s1.out
      obtain ⟨p1, k1, _⟩ := s.c1
      have k2 := s.c2
      have fz1 := s.fz 1
      have fz2 := s.fz 2
      have PT : Hid (∀ st' : Option Nat, (∀ q, st' = some q → y' = (q : Int)) → (∀ q, st' = some q → q ≤ bs.length) → RS bs R v st' ((wc.setCell ⟨R, 1, none⟩ (.int .i64 y')).setCell ⟨R, 2, none⟩ (.bool st'.isNone)) ∧ wc.grownBy ((wc.setCell ⟨R, 1, none⟩ (.int .i64 y')).setCell ⟨R, 2, none⟩ (.bool st'.isNone)) (some R)) := fun st' h1 h2 => s.put (st' := st') 0 y' h1 h2
      clear s s1 C
      rcases D1.out with ⟨rfl, rfl, rfl, GG⟩ | ⟨rfl, q1, rfl, GG⟩
      · obtain ⟨F1, F2⟩ := PT.out none (fun q h => by cases h) (fun q h => by cases h)
        simp only [Option.isNone] at F1 F2
        have HGG : Hid (Got (lsB lnB) (fun xs => ∀ x ∈ xs, Ln.Ok x) bs q none []) := GG
        have F1' : Hid (RS bs R v none ((wc.setCell ⟨R, 1, none⟩ (.int .i64 0)).setCell ⟨R, 2, none⟩ (.bool true))) := F1
        have F2' : Hid (w.grownBy ((wc.setCell ⟨R, 1, none⟩ (.int .i64 0)).setCell ⟨R, 2, none⟩ (.bool true)) (some R)) := grownBy_trans g1 F2
        clear F1 F2 PT D1 GG
        go_wp2_with fail
        go_ret
        exact ⟨a, n, c, [], pvs, none, rfl, r1.out.row_grown (grownBy_trans (setCell_grown _ R 1 _) (setCell_grown _ R 2 _)) hR, F1'.out, F2'.out, (fun h => by cases h), (fun p h => by injection h with h; subst h; exact HGG.out)⟩
      · have LE : q1 ≤ bs.length := (GG.yes q1 rfl).2.2.2
        obtain ⟨F1, F2⟩ := PT.out (some q1) (fun q h => by cases h; rfl) (fun q h => by cases h; exact LE)
        simp only [Option.isNone] at F1 F2
        have HGG : Hid (Got (lsB lnB) (fun xs => ∀ x ∈ xs, Ln.Ok x) bs q (some q1) xs) := GG
        have F1' : Hid (RS bs R v (some q1) ((wc.setCell ⟨R, 1, none⟩ (.int .i64 (q1 : Int))).setCell ⟨R, 2, none⟩ (.bool false))) := F1
        have F2' : Hid (w.grownBy ((wc.setCell ⟨R, 1, none⟩ (.int .i64 (q1 : Int))).setCell ⟨R, 2, none⟩ (.bool false)) (some R)) := grownBy_trans g1 F2
        clear F1 F2 PT D1 GG LE
        go_wp2_with fail
        go_ret
        exact ⟨a, n, c, xs, pvs, some q1, rfl, r1.out.row_grown (grownBy_trans (setCell_grown _ R 1 _) (setCell_grown _ R 2 _)) hR, F1'.out, F2'.out, (fun h => by cases h), (fun p h => by injection h with h; subst h; exact HGG.out)⟩
theorem TwI.mono {wb wb' : Nat} {wr : World} {v : Value} {ls : List Ln} {pvs : List Value} (h : TwI wb wr v ls pvs) (hb : wb' ≤ wb) : TwI wb' wr v ls pvs := ⟨h.len, h.row, fun g hg => Nat.le_trans hb (h.new g hg), h.pl, h.ap, h.lt, h.pb, fun i hi g hg => Nat.le_trans hb (h.pn i hi g hg)⟩
set_option maxRecDepth 20000 in
set_option maxHeartbeats 1000000 in
theorem takeListLn_at (bs : List Nat) (hb : ∀ c ∈ bs, c < 256) (hl : bs.length ≤ 100000000000) (R : Nat) (v : Value) (st : Option Nat) (w : World) (h : RS bs R v st w) :
    Calls Try.prog 83 #[.pointer (some ⟨R, 0, none⟩), loanF R] w (TlAns bs R v st w) := by
  have C : Hid (∀ w' B, Below w.heap.size w w' → w'.cell? ⟨B, 0, none⟩ = some (loanF R) → Calls Try.prog 105 #[.pointer (some ⟨R, 0, none⟩), .func (.func 106) #[] #[.pointer (some ⟨B, 0, none⟩)]] w' (TlAns bs R v st w')) := fun w' B h1 h2 => takeLn_at bs hb hl R B v st w' (h.below h1) h2
  clear h hb hl
  unfold loanF at *
  go_enter Try.func83, Try.ntmps83
  go_wp2_with fail
  refine (C.out _ _ (below_alloc w _) ((Blk.new _ [_] w).cell 0 _ rfl)).mono ?_
  rintro e w1 ⟨a, n, c, xs, pvs, st', rfl, r1, s1, g1, t1⟩
  have F : Hid (TlAns bs R v st w (.returned (.slice a n c)) w1) := ⟨a, n, c, xs, pvs, st', rfl, r1.mono (by simp), s1, grownBy_trans (grownBy_below (below_alloc w _) _) g1, t1⟩
  clear r1 s1 g1 t1
  go_wp2_with fail
  go_ret
  exact F.out
end Go.Proofs.Ytdbjjeaflfoppaa
