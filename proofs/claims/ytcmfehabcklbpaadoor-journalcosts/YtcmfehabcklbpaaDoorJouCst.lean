/-
  Ours: JournalCosts' walk.
-/
import Derived.Test.YtcmfehabcklbpaaDoorJouLaw
namespace Go.Proofs.YtcmfehabcklbpaaDoor
open Go.RowKit JM

/-- A disk without a crash, all durable: x in the file f, o in the other. -/
def D2 (f : Nat) (x o : List Nat) (wr : Int) : Dk := if f = 0 then ⟨x, x.length, o, o.length, [], wr, false⟩ else ⟨o, o.length, x, x.length, [], wr, false⟩
theorem D2_dn (f : Nat) (x o : List Nat) (wr : Int) : (D2 f x o wr).dn = false := by unfold D2; split <;> rfl
theorem D2_wr (f : Nat) (x o : List Nat) (wr : Int) : (D2 f x o wr).wr = wr := by unfold D2; split <;> rfl
theorem D2_x {f : Nat} (hf : f = 0 ∨ f = 1) (x o : List Nat) (wr : Int) : (D2 f x o wr).fbN f = x := by rcases hf with rfl | rfl <;> rfl
theorem D2_o {f : Nat} (hf : f = 0 ∨ f = 1) (x o : List Nat) (wr : Int) : (D2 f x o wr).ob f = o := by rcases hf with rfl | rfl <;> rfl
theorem D2_lay {f : Nat} (hf : f = 0 ∨ f = 1) (x o F : List Nat) (wr : Int) (h : x.length + F.length ≤ 16777216) : (D2 f x o wr).lay f F = (D2 f (x ++ F) o (wr + 2), 0) := by
  rcases hf with rfl | rfl
  · have e : (D2 0 x o wr).append 0 F = (⟨x ++ F, x.length, o, o.length, [], wr + 1, false⟩, 0) := by
      show (if (0 : Int) ≠ 0 then _ else if 16777216 < x.length + F.length then _ else _) = _
      rw [if_neg (by omega), if_neg (by omega)]; rfl
    have s : (⟨x ++ F, x.length, o, o.length, [], wr + 1, false⟩ : Dk).sync 0 = (⟨x ++ F, (x ++ F).length, o, o.length, [], wr + 1 + 1, false⟩, 0) := rfl
    show (if ((D2 0 x o wr).append 0 F).2 ≠ 0 then _ else ((D2 0 x o wr).append 0 F).1.sync 0) = _
    rw [e, if_neg (by simp), s, show wr + 1 + 1 = wr + 2 by omega]; rfl
  · have e : (D2 1 x o wr).append 1 F = (⟨o, o.length, x ++ F, x.length, [], wr + 1, false⟩, 0) := by
      show (if (0 : Int) ≠ 0 then _ else if 16777216 < x.length + F.length then _ else _) = _
      rw [if_neg (by omega), if_neg (by omega)]; rfl
    have s : (⟨o, o.length, x ++ F, x.length, [], wr + 1, false⟩ : Dk).sync 1 = (⟨o, o.length, x ++ F, (x ++ F).length, [], wr + 1 + 1, false⟩, 0) := rfl
    show (if ((D2 1 x o wr).append 1 F).2 ≠ 0 then _ else ((D2 1 x o wr).append 1 F).1.sync 1) = _
    rw [e, if_neg (by simp), s, show wr + 1 + 1 = wr + 2 by omega]; rfl
theorem D2_cut {f : Nat} (x o : List Nat) (wr : Int) {n : Nat} (h : x.length = n) : (D2 f x o wr).cut f x.length n = (D2 f x o wr, 0) := by
  unfold Dk.cut; rw [if_pos h]
/-- A write more, where there is something to cut. -/
def more (o : List Nat) : Int := if o.length = 0 then 0 else 1
theorem D2_cuto {f : Nat} (hf : f = 0 ∨ f = 1) (x o : List Nat) (wr : Int) : (D2 f x o wr).cut (1 - (f : Int)) o.length 0 = (D2 f x [] (wr + more o), 0) := by
  unfold Dk.cut more
  by_cases h : o.length = 0
  · rw [if_pos h, if_pos h]
    obtain rfl : o = [] := List.length_eq_zero_iff.1 h
    rw [Int.add_zero]
  · rw [if_neg h, if_neg h]
    rcases hf with rfl | rfl
    · show (if (0 : Int) ≠ 0 then _ else if ((0 : Nat) : Int) < 0 ∨ (o.length : Int) < ((0 : Nat) : Int) then _ else _) = _
      rw [if_neg (by omega), if_neg (by omega)]; rfl
    · show (if (0 : Int) ≠ 0 then _ else if ((0 : Nat) : Int) < 0 ∨ (o.length : Int) < ((0 : Nat) : Int) then _ else _) = _
      rw [if_neg (by omega), if_neg (by omega)]; rfl
theorem D2_turn {f : Nat} (hf : f = 0 ∨ f = 1) (x o : List Nat) (wr : Int) : D2 f x o wr = D2 (1 - f) o x wr := by rcases hf with rfl | rfl <;> rfl
theorem oneSub {f : Nat} (hf : f = 0 ∨ f = 1) : ((1 - f : Nat) : Int) = 1 - (f : Int) := by rcases hf with rfl | rfl <;> rfl
theorem oneSub01 {f : Nat} (_hf : f = 0 ∨ f = 1) : 1 - f = 0 ∨ 1 - f = 1 := by omega
theorem D2_read {f : Nat} (hf : f = 0 ∨ f = 1) (x o : List Nat) (wr : Int) : (D2 f x o wr).read (1 - (f : Int)) = (o, 0) := by rcases hf with rfl | rfl <;> rfl
theorem D2_renew {f : Nat} (hf : f = 0 ∨ f = 1) (x o F : List Nat) (wr : Int) (h : F.length ≤ 16777216) : (D2 f x o wr).renew (1 - (f : Int)) F = (D2 (1 - f) F x (wr + 2 + more o), 0) := by
  unfold Dk.renew
  rw [D2_read hf, if_neg (by simp)]
  show (if ((D2 f x o wr).cut (1 - (f : Int)) o.length 0).2 ≠ 0 then _ else ((D2 f x o wr).cut (1 - (f : Int)) o.length 0).1.lay (1 - (f : Int)) F) = _
  rw [D2_cuto hf, if_neg (by simp), D2_turn hf, ← oneSub hf]
  show (D2 (1 - f) [] x (wr + more o)).lay ((1 - f : Nat) : Int) F = _
  rw [D2_lay (oneSub01 hf) _ _ _ _ (by simpa using h), List.nil_append, show wr + more o + 2 = wr + 2 + more o by omega]
theorem D2_fmt (F : List Nat) (h : F.length ≤ 16777216) : (Dk.load [] []).fmt F = (D2 0 F [] 2, 0) := by
  have e : Dk.load [] [] = D2 0 [] [] 0 := rfl
  rw [e]
  have c1 : (D2 0 [] [] 0).cut 1 ([] : List Nat).length 0 = (D2 0 [] [] 0, 0) := rfl
  have c0 : (D2 0 [] [] 0).cut 0 ([] : List Nat).length 0 = (D2 0 [] [] 0, 0) := rfl
  have l : (D2 0 [] [] 0).lay 0 F = (D2 0 F [] 2, 0) := D2_lay (f := 0) (.inl rfl) [] [] F 0 (by simpa using h)
  unfold Dk.fmt
  rw [if_neg (by rw [D2_dn]; decide)]
  show (if ((D2 0 [] [] 0).cut 1 ([] : List Nat).length 0).2 ≠ 0 then _ else if (((D2 0 [] [] 0).cut 1 ([] : List Nat).length 0).1.cut 0 ([] : List Nat).length 0).2 ≠ 0 then _ else (((D2 0 [] [] 0).cut 1 ([] : List Nat).length 0).1.cut 0 ([] : List Nat).length 0).1.lay 0 F) = _
  rw [c1, if_neg (by simp)]
  show (if ((D2 0 [] [] 0).cut 0 ([] : List Nat).length 0).2 ≠ 0 then _ else ((D2 0 [] [] 0).cut 0 ([] : List Nat).length 0).1.lay 0 F) = _
  rw [c0, if_neg (by simp)]
  exact l

/-- What is in a journal's files. -/
structure JB (f ep : Nat) (sn : List Nat) (rs : List (List Nat)) (o : List Nat) : Prop where
  f01 : f = 0 ∨ f = 1
  old : Old ep o
  e1 : 1 ≤ ep
  e2 : ep ≤ 1000000000
  sb : ∀ b ∈ sn, b < 256
  sl : sn.length ≤ 4096
  rb : ∀ r ∈ rs, ∀ b ∈ r, b < 256
  rl : ∀ r ∈ rs, r.length ≤ 4096
  ob : ∀ b ∈ o, b < 256
theorem JB.jr {f ep : Nat} {sn : List Nat} {rs : List (List Nat)} {o : List Nat} (h : JB f ep sn rs o) (wr : Int) : Jr (D2 f (jf ep sn rs) o wr) f ep sn rs [] :=
  ⟨h.f01, by rw [D2_x h.f01, List.append_nil], Mute.nil, by rw [D2_o h.f01]; exact h.old, h.e1, by have := h.e2; omega, h.sb, by have := h.sl; omega, h.rb, fun r hr => by have := h.rl r hr; omega, (fun b hb => nomatch hb), by rw [D2_o h.f01]; exact h.ob⟩
theorem JB.push {f ep : Nat} {sn r o : List Nat} {rs : List (List Nat)} (h : JB f ep sn rs o) (hr : ∀ b ∈ r, b < 256) (hl : r.length ≤ 4096) : JB f ep sn (rs ++ [r]) o :=
  ⟨h.f01, h.old, h.e1, h.e2, h.sb, h.sl, fun x hx => (List.mem_append.1 hx).elim (h.rb x) (fun e => by rw [List.mem_singleton.1 e]; exact hr), fun x hx => (List.mem_append.1 hx).elim (h.rl x) (fun e => by rw [List.mem_singleton.1 e]; exact hl), h.ob⟩
theorem JB.next {f ep : Nat} {sn s o : List Nat} {rs : List (List Nat)} (h : JB f ep sn rs o) (hr : ∀ b ∈ s, b < 256) (hl : s.length ≤ 4096) (he : ep < 1000000000) : JB (1 - f) (ep + 1) s [] (jf ep sn rs) :=
  ⟨oneSub01 h.f01, by unfold jf; exact Old.head ep sn _ h.e1 (by omega) h.sb (by have := h.sl; omega), by omega, by omega, hr, hl, (fun r hr => nomatch hr), (fun r hr => nomatch hr), jf_lt ep sn rs h.sb h.rb⟩
theorem JB.clear {f ep : Nat} {sn o : List Nat} {rs : List (List Nat)} (h : JB f ep sn rs o) : JB f ep sn rs [] := ⟨h.f01, Old.nil ep, h.e1, h.e2, h.sb, h.sl, h.rb, h.rl, fun _ hb => nomatch hb⟩
/-- A journal at J that lives on the disk at R, all made since w0. -/
structure JL (w0 : World) (R J : Nat) (S : Nat → Prop) (f ep : Nat) (sn : List Nat) (rs : List (List Nat)) (o : List Nat) (wr : Int) (w : World) : Prop where
  d : DkAt R S (D2 f (jf ep sn rs) o wr) w
  j : Blk J 72 (jnL R (f : Int) (ep : Int) (rs.length : Int) false) w
  n : ¬ S J
  sS : ∀ g, S g → w0.heap.size ≤ g
  sJ : w0.heap.size ≤ J
  b : Below w0.heap.size w0 w
  jb : JB f ep sn rs o
theorem JL.later {w0 : World} {R J : Nat} {S : Nat → Prop} {f ep : Nat} {sn : List Nat} {rs : List (List Nat)} {o : List Nat} {wr : Int} {w w1 : World} (h : JL w0 R J S f ep sn rs o wr w) (hb : Below w.heap.size w w1) : JL w0 R J S f ep sn rs o wr w1 :=
  ⟨h.d.below hb, h.j.below hb, h.n, h.sS, h.sJ, below_trans h.b hb, h.jb⟩
theorem Kp.over {M : Nat → Prop} {w0 w w' : World} (hb : Below w0.heap.size w0 w) (k : Kp M w w') (hM : ∀ g, M g → w0.heap.size ≤ g) : Below w0.heap.size w0 w' :=
  ⟨k.os.trans hb.os, k.tape.trans hb.tape, k.output.trans hb.output, Nat.le_trans hb.size k.size, fun g hg => (k.block g (Nat.lt_of_lt_of_le hg hb.size) (fun h => by have := hM g h; omega)).trans (hb.block g hg)⟩

theorem JL.of {w0 : World} {R J : Nat} {S : Nat → Prop} {f ep f' ep' : Nat} {sn sn' : List Nat} {rs rs' : List (List Nat)} {o o' : List Nat} {wr wr' : Int} {w w' : World} (h : JL w0 R J S f ep sn rs o wr w) (hb : JB f' ep' sn' rs' o') (p : JnPost R J S w (D2 f' (jf ep' sn' rs') o' wr') (jnL R (f' : Int) (ep' : Int) (rs'.length : Int) false) w') : ∃ S', JL w0 R J S' f' ep' sn' rs' o' wr' w' := by
  obtain ⟨S', d, g1, b, k⟩ := p
  have lt := h.j.lt
  refine ⟨S', d, b, fun hs => (g1 J hs).elim h.n (fun h => by omega), fun g hg => (g1 g hg).elim (h.sS g) (fun hh => Nat.le_trans h.b.size hh), h.sJ, Kp.over h.b k (fun g hg => ?_), hb⟩
  rcases hg with hg | rfl
  · exact h.sS g hg
  · exact h.sJ
theorem jl_append {w0 : World} {R J : Nat} {S : Nat → Prop} {f ep : Nat} {sn : List Nat} {rs : List (List Nat)} {o : List Nat} {wr : Int} {w : World} (h : JL w0 R J S f ep sn rs o wr w) (hw : 0 ≤ wr ∧ wr < 1000000000) (hn : rs.length ≤ 1000000000) (r : List Nat) (ad : Option Addr) (n c : Nat) (hr : ∀ b ∈ r, b < 256) (hl : r.length ≤ 4096) (hx : (jf ep sn rs).length + r.length + 9 ≤ 16777216) (hd : RdB w (.slice ad n c) r) (hT : TabS w) :
    Calls Tryd.prog 13 #[.pointer (some ⟨J, 0, none⟩), .slice ad n c] w fun e w' => e = .returned (.int .i64 0) ∧ ∃ S', JL w0 R J S' f ep sn (rs ++ [r]) o (wr + 2) w' := by
  have e := D2_lay h.jb.f01 (jf ep sn rs) o (CrcM.enc (rp r)) wr (by rw [CrcM.enc_len]; simp [rp]; omega)
  refine (append_live R J S _ (f : Int) (ep : Int) (rs.length : Int) r ad n c w (by rw [D2_wr]; omega) (by omega) h.d (dkAt_size h.d) h.j h.n hr (by omega) hd hT).mono ?_
  rw [e]
  rintro x w' ⟨rfl, p⟩
  refine ⟨rfl, h.of (h.jb.push hr hl) ?_⟩
  rw [if_pos rfl] at p
  rw [jf_push, List.length_append]
  exact p
theorem jl_compact {w0 : World} {R J : Nat} {S : Nat → Prop} {f ep : Nat} {sn : List Nat} {rs : List (List Nat)} {o : List Nat} {wr : Int} {w : World} (h : JL w0 R J S f ep sn rs o wr w) (hw : 0 ≤ wr ∧ wr < 1000000000) (r : List Nat) (ad : Option Addr) (n c : Nat) (hr : ∀ b ∈ r, b < 256) (hl : r.length ≤ 4096) (he : ep < 1000000000) (hd : RdB w (.slice ad n c) r) (hT : TabS w) :
    Calls Tryd.prog 14 #[.pointer (some ⟨J, 0, none⟩), .slice ad n c] w fun e w' => e = .returned (.int .i64 0) ∧ ∃ S', JL w0 R J S' (1 - f) (ep + 1) r [] (jf ep sn rs) (wr + 2 + more o) w' := by
  have hpl := put_len10 (ep + 1) (by omega)
  have e := D2_renew h.jb.f01 (jf ep sn rs) o (CrcM.enc (hp (ep + 1) r)) wr (by rw [CrcM.enc_len]; simp [hp]; omega)
  have f01 : (f : Int) = 0 ∨ (f : Int) = 1 := by have := h.jb.f01; omega
  refine (compact_live R J S _ (f : Int) ep (rs.length : Int) r ad n c w (by rw [D2_wr]; omega) f01 (by omega) h.d (dkAt_size h.d) h.j h.n hr (by omega) hd hT).mono ?_
  rw [e]
  rintro x w' ⟨rfl, p⟩
  refine ⟨rfl, h.of (h.jb.next hr hl he) ?_⟩
  rw [if_pos rfl] at p
  have e2 : jf (ep + 1) r [] = CrcM.enc (hp (ep + 1) r) := by unfold jf; rw [List.map_nil, join_nil, List.append_nil]
  rw [e2, oneSub h.jb.f01]
  exact p
theorem jl_open {w0 : World} {R J : Nat} {S : Nat → Prop} {f ep : Nat} {sn : List Nat} {rs : List (List Nat)} {o : List Nat} {wr : Int} {w : World} (h : JL w0 R J S f ep sn rs o wr w) (hw : 0 ≤ wr ∧ wr < 1000000000) (hT : TabS w) :
    Calls Tryd.prog 12 #[.pointer (some ⟨R, 0, none⟩)] w fun e w' => ∃ G sv rv S', e = .returned (.tuple #[.pointer (some ⟨G, 0, none⟩), .agg (rcL (ep : Int) sv rv 0).toArray, .int .i64 0]) ∧ JL w0 R G S' f ep sn rs [] (wr + more o) w' ∧ OwnT w.heap.size w' sv sn ∧ TlsV w.heap.size w' rv rs ∧ Kp S w w' := by
  refine (open_ok R S _ _ _ f ep sn rs [] w (h.jb.jr wr) (by rw [D2_wr]; omega) (D2_dn _ _ _ _) (by rw [D2_x h.jb.f01]; exact D2_cut _ _ _ rfl) (by rw [D2_o h.jb.f01]; exact D2_cuto h.jb.f01 _ _ _) h.d hT).mono ?_
  rintro e w' ⟨G, sv, rv, S', rfl, h1, h2, h3, h4, h5, h6, h7, h8⟩
  exact ⟨G, sv, rv, S', rfl, ⟨h2, h1, h4, fun g hg => (h3 g hg).elim (h.sS g) (fun hh => Nat.le_trans h.b.size hh), Nat.le_trans h.b.size h6, Kp.over h.b h5 h.sS, h.jb.clear⟩, h7, h8, h5⟩
/-- A new disk, formatted, and opened. -/
theorem jl_format {w0 : World} {R : Nat} {S : Nat → Prop} {w : World} (sn : List Nat) (ad : Option Addr) (n c : Nat) (h : DkAt R S (Dk.load [] []) w) (hS : ∀ g, S g → w0.heap.size ≤ g) (hb : Below w0.heap.size w0 w) (hr : ∀ b ∈ sn, b < 256) (hl : sn.length ≤ 4096) (hd : RdB w (.slice ad n c) sn) (hT : TabS w) :
    Calls Tryd.prog 9 #[.pointer (some ⟨R, 0, none⟩), .slice ad n c] w fun e w' => e = .returned (.int .i64 0) ∧ ∃ S', DkAt R S' (D2 0 (jf 1 sn []) [] 2) w' ∧ (∀ g, S' g → w0.heap.size ≤ g) ∧ Below w0.heap.size w0 w' := by
  have hpl := put_len10 1 (by omega)
  have e := D2_fmt (CrcM.enc (hp 1 sn)) (by rw [CrcM.enc_len]; simp [hp]; omega)
  have e2 : jf 1 sn [] = CrcM.enc (hp 1 sn) := by unfold jf; rw [List.map_nil, join_nil, List.append_nil]
  refine (formatD_up R S _ sn ad n c w ⟨by show (0 : Int) ≤ 0; omega, by show (0 : Int) < _; omega⟩ rfl h (dkAt_size h) hr (by omega) hd hT).mono ?_
  rw [e]
  rintro x w' ⟨rfl, S', d, g1, k⟩
  refine ⟨rfl, S', by rw [e2]; exact d, fun g hg => (g1 g hg).elim (hS g) (fun hh => Nat.le_trans hb.size hh), Kp.over hb k hS⟩
theorem jl_first {w0 : World} {R : Nat} {S : Nat → Prop} {w : World} (sn : List Nat) (h : DkAt R S (D2 0 (jf 1 sn []) [] 2) w) (hS : ∀ g, S g → w0.heap.size ≤ g) (hb : Below w0.heap.size w0 w) (hr : ∀ b ∈ sn, b < 256) (hl : sn.length ≤ 4096) (hT : TabS w) :
    Calls Tryd.prog 12 #[.pointer (some ⟨R, 0, none⟩)] w fun e w' => ∃ G sv rv S', e = .returned (.tuple #[.pointer (some ⟨G, 0, none⟩), .agg (rcL 1 sv rv 0).toArray, .int .i64 0]) ∧ JL w0 R G S' 0 1 sn [] [] 2 w' ∧ OwnT w.heap.size w' sv sn ∧ TlsV w.heap.size w' rv [] ∧ Kp S w w' := by
  have jb : JB 0 1 sn [] [] := ⟨.inl rfl, Old.nil 1, by omega, by omega, hr, hl, (fun r hr => nomatch hr), (fun r hr => nomatch hr), fun _ hb => nomatch hb⟩
  refine (open_ok R S _ _ _ 0 1 sn [] [] w (jb.jr 2) (by rw [D2_wr]; omega) (D2_dn _ _ _ _) (by rw [D2_x jb.f01]; exact D2_cut _ _ _ rfl) (by rw [D2_o jb.f01]; exact D2_cuto jb.f01 _ _ _) h hT).mono ?_
  rintro e w' ⟨G, sv, rv, S', rfl, h1, h2, h3, h4, h5, h6, h7, h8⟩
  exact ⟨G, sv, rv, S', rfl, ⟨h2, h1, h4, fun g hg => (h3 g hg).elim (hS g) (fun hh => Nat.le_trans hb.size hh), Nat.le_trans hb.size h6, Kp.over hb h5 hS, jb⟩, h7, h8, h5⟩
end Go.Proofs.YtcmfehabcklbpaaDoor

namespace Go.Proofs.YtcmfehabcklbpaaDoor
open Go.RowKit JM

theorem more_two (o : List Nat) : 0 ≤ more o ∧ more o ≤ 1 := by unfold more; split <;> omega
theorem more_nil : more [] = 0 := rfl
theorem more_jf (ep : Nat) (sn : List Nat) (rs : List (List Nat)) : more (jf ep sn rs) = 1 := by
  unfold more; rw [if_neg]
  rw [jf_len, CrcM.enc_len]; omega
theorem jf_len1 (ep : Nat) (sn : List Nat) (he : ep ≤ 1000000000) : (jf ep sn []).length ≤ 19 + sn.length := by
  have := put_len10 ep (by omega)
  rw [jf_len, CrcM.enc_len, List.map_nil, join_nil]; simp [hp]; omega
theorem jf_len_push (ep : Nat) (sn : List Nat) (rs : List (List Nat)) (r : List Nat) : (jf ep sn (rs ++ [r])).length = (jf ep sn rs).length + r.length + 9 := by
  rw [jf_push, List.length_append, CrcM.enc_len]; simp [rp]; omega
theorem ojL_one (o : OpJ) (x : Option Addr) (c : Nat) : ∀ v ∈ ojL o x c, v.oneCell' = true := by
  intro v hv
  simp [ojL] at hv
  rcases hv with rfl | rfl | rfl | rfl | rfl <;> rfl
def ojZ : List Value := [.int .i64 0, .int .i64 0, .int .i64 0, .int .i64 0, .slice none 0 0]
/-- What the loop carries. -/
structure CI (w : World) (R : Nat) (bs : List Nat) (os : List OpJ) (J : Nat) (S : Nat → Prop) (f ep : Nat) (sn : List Nat) (rs : List (List Nat)) (o : List Nat) (i : Nat) (n st : Int) (wr : World) : Prop where
  l : JL w R J S f ep sn rs o n wr
  hst : st = more o
  hn : n ≤ 2 + 3 * i
  hep : ep ≤ 1 + i
  hrs : rs.length ≤ i
  hx : (jf ep sn rs).length ≤ 28 + bs.length + 9 * i + lenJ os i

set_option maxRecDepth 100000 in
set_option maxHeartbeats 4000000 in
theorem costs_any (bs : List Nat) (os : List OpJ) (va vb : Value) (w : World) (h : RdB w va bs) (h' : RdJ w vb os) (hb : bs.length ≤ 140737488355328) (ho : os.length ≤ 140737488355328) (hd : ∀ o ∈ os, o.data.length ≤ 140737488355328) (hbb : ∀ b ∈ bs, b < 256) (hob : ∀ o ∈ os, ∀ b ∈ o.data, b < 256) (hT : TabS w) :
    Calls Tryd.prog 3 #[va, vb] w fun e w' => e = .returned (.bool true) ∧ Below w.heap.size w w' := by
  have FT := fits_at bs os va vb w h h' hb ho hd
  by_cases hf : fitsJ bs os
  · have FT' : Hid (Calls Tryd.prog 7 #[va, vb] w fun e w' => e = .returned (.bool true) ∧ w = w') := FT.mono fun e w' ⟨h1, h2⟩ => ⟨by rw [h1, decide_eq_true hf], h2.symm⟩
    have FF : Hid (bs.length + os.length + lenJ os os.length ≤ 4096) := hf
    have hb4 : bs.length ≤ 4096 := by have := FF.out; omega
    have hL4 : os.length ≤ 4096 := by have := FF.out; omega
    have NW : Hid (Calls Tryd.prog 8 #[] w (NewD w (Dk.load [] []))) := new_at w
    have CP : Hid (∀ (xs : List Nat) v w', xs.length ≤ 4096 → RdB w' v xs → Calls Tryd.prog 10 #[v] w' (NewB w' xs)) := fun xs v w' h1 h2 => jcopied_at xs v w' (by omega) h2
    have TT : Hid (∀ w', Below w.heap.size w w' → TabS w') := fun w' hb => hT.below hb
    have RA : Hid (∀ w', Below w.heap.size w w' → RdB w' va bs) := fun w' hb => Rd.later h hb
    have BB : Hid (∀ b ∈ bs, b < 256) := hbb
    obtain ⟨ao', cap', rfl, H⟩ := h'
    have HH : Hid (∀ i, i < os.length → ∃ o g off x c, ao' = some ⟨g, off, none⟩ ∧ (∀ b ∈ o.data, b < 256) ∧ o.data.length ≤ 4096 ∧ lenJ os (i + 1) = lenJ os i + o.data.length ∧ lenJ os (i + 1) ≤ 4096 ∧ ∀ w', Below w.heap.size w w' → w'.rangeAt g (off + i * 5) (ojL o x c) ∧ RdB w' (.slice x o.data.length c) o.data) := fun i hi => by
      have e := List.getElem?_eq_getElem hi
      obtain ⟨g, off, x, c, e1, lt, r, d⟩ := H i _ e
      have h1 := lenJ_succ e
      have h2 := lenJ_mono os (j := i + 1) (k := os.length) hi
      have h3 := FF.out
      exact ⟨_, g, off, x, c, e1, hob _ (List.getElem_mem _), by omega, h1, by omega, fun w' hb => ⟨rangeAt_below r hb lt, Rd.later d hb⟩⟩
    have Z0 : Hid (lenJ os 0 = 0) := rfl
    obtain ⟨av, cv, rfl, -, -⟩ := h.len
    clear FT hf h H hb ho hd hbb hob hT
    generalize os.length = L at *
    rw [List.length_map] at *
    go_enter Tryd.func3, Tryd.ntmps3
    go_wp2_with fail
    refine FT'.out.mono ?_
    rintro e w' ⟨rfl, rfl⟩
    go_wp2_with fail
    refine NW.out.mono ?_
    rintro e w1 ⟨R, S1, rfl, d1, s1, b1⟩
    have D1 : Hid (DkAt R S1 (Dk.load [] []) w1 ∧ (∀ g, S1 g → w.heap.size ≤ g) ∧ Below w.heap.size w w1) := ⟨d1, s1, b1⟩
    have C1 : Hid (Calls Tryd.prog 10 #[.slice av bs.length cv] w1 (NewB w1 bs)) := CP.out bs _ w1 hb4 (RA.out w1 b1)
    clear d1 s1 b1 NW FT'
    go_wp2_with fail
    refine C1.out.mono ?_
    rintro e w2 ⟨v2, rfl, r2, b2⟩
    obtain ⟨a2, c2, rfl, -, -⟩ := (RowV.rd r2).len
    rw [List.length_map] at r2
    have F2 : Hid (Calls Tryd.prog 9 #[.pointer (some ⟨R, 0, none⟩), .slice a2 bs.length c2] w2 fun e w' => e = .returned (.int .i64 0) ∧ ∃ S', DkAt R S' (D2 0 (jf 1 bs []) [] 2) w' ∧ (∀ g, S' g → w.heap.size ≤ g) ∧ Below w.heap.size w w') := jl_format bs a2 _ c2 (D1.out.1.below b2) D1.out.2.1 (below_trans D1.out.2.2 b2) BB.out hb4 (RowV.rd r2) (TT.out w2 (below_trans D1.out.2.2 b2))
    clear r2 b2 C1 D1
    rw [List.length_map]
    go_wp2_with fail
    refine F2.out.mono ?_
    rintro e w3 ⟨rfl, S3, d3, s3, b3⟩
    have W3 : Hid (Calls Tryd.prog 11 #[.pointer (some ⟨R, 0, none⟩)] w3 fun e w' => e = .returned (.int .i64 2) ∧ w3 = w') := (writes_at R S3 _ w3 d3).mono fun e w' ⟨h1, h2⟩ => ⟨by rw [h1, D2_wr], h2.symm⟩
    have O3 : Hid (Calls Tryd.prog 12 #[.pointer (some ⟨R, 0, none⟩)] w3 fun e w' => ∃ G a1 n1 c1 a2 n2 c2 S', e = .returned (.tuple #[.pointer (some ⟨G, 0, none⟩), .agg #[.int .i64 1, .slice a1 n1 c1, .slice a2 n2 c2, .int .i64 0], .int .i64 0]) ∧ JL w R G S' 0 1 bs [] [] 2 w') := (jl_first bs d3 s3 b3 BB.out hb4 (TT.out w3 b3)).mono fun e w' ⟨G, sv, rv, S', h1, h2, h3, h4, _⟩ => by
      obtain ⟨g, o, c, rfl, _⟩ := h3.len
      obtain ⟨a, c', rfl, _⟩ := h4.len
      exact ⟨G, _, _, _, _, _, _, S', h1, h2⟩
    clear d3 s3 b3 F2
    go_wp2_with fail
    refine W3.out.mono ?_
    rintro e w' ⟨rfl, rfl⟩
    go_wp2_with fail
    refine O3.out.mono ?_
    rintro e w4 ⟨J, a1, n1, c1, a2, n2, c2, S4, rfl, j4⟩
    have J4 : Hid (JL w R J S4 0 1 bs [] [] 2 w4) := j4
    clear j4 O3 W3
    go_upto_region 7 with ((with_reducible refine at_store ?_); refine step_store rfl 34 _ _ rfl w4.heap.size 0 34 rcZ [.int .i64 1, .slice a1 n1 c1, .slice a2 n2 c2, .int .i64 0] rfl rfl (Blk.new 34 rcZ w4) (Nat.le_refl _) rfl (rcL_one _ _ _ _ _ _ _ _) ?_; intro w5 nb g5; have J5 : Hid (JL w R J S4 0 1 bs [] [] 2 w5) := J4.out.later (below_row (below_alloc _ _) g5 (Nat.le_refl _)); clear nb g5 J4)
    have W5 : Hid (Calls Tryd.prog 11 #[.pointer (some ⟨R, 0, none⟩)] w5 fun e w' => e = .returned (.int .i64 2) ∧ w5 = w') := (writes_at R S4 _ w5 J5.out.d).mono fun e w' ⟨h1, h2⟩ => ⟨by rw [h1, D2_wr], h2.symm⟩
    go_wp2_with fail
    refine W5.out.mono ?_
    rintro e w' ⟨rfl, rfl⟩
    clear W5
    generalize w4.heap.size = P7 at *
    go_wp2_with fail
    go_loopw [6, 8, 9, 10, 11] (fun vj ve vn vs vi wr => ∃ (J : Nat) (S : Nat → Prop) (f ep : Nat) (sn : List Nat) (rs : List (List Nat)) (o : List Nat) (i : Nat) (n st : Int), vj = .pointer (some ⟨J, 0, none⟩) ∧ ve = .int .i64 0 ∧ vn = .int .i64 n ∧ vs = .int .i64 st ∧ vi = .int .i64 (i : Int) ∧ i ≤ L ∧ (0 ≤ n ∧ n ≤ 100000) ∧ (0 ≤ st ∧ st ≤ 1) ∧ Hid (CI w R bs os J S f ep sn rs o i n st wr)) (fun _ _ _ _ vi _ => L - (intOf vi).toNat)
    case atStart =>
      refine ⟨J, S4, 0, 1, bs, [], [], 0, 2, 0, rfl, rfl, rfl, rfl, rfl, by omega, by omega, by omega, ⟨J5.out, more_nil.symm, by omega, by omega, by simp, ?_⟩⟩
      have := jf_len1 1 bs (by omega)
      omega
    case round =>
      clear J5
      obtain ⟨J, S, f, ep, sn, rs, o, i, n, st, rfl, rfl, rfl, rfl, rfl, hi, hn, hst, CI0⟩ := hrel
      by_cases hlt : (i : Int) < (L : Int)
      · obtain ⟨⟨k, a, b, z, ds⟩, g, off, x, c, rfl, ob, ol, ls, l4, RR⟩ := HH.out i (by omega)
        have BW := CI0.out.l.b
        have RG : Hid (wr.rangeAt g (off + i * 5) [.int .i64 k, .int .i64 a, .int .i64 b, .int .i64 z, .slice x ds.length c]) := (RR wr BW).1
        have RD : Hid (RdB wr (.slice x ds.length c) ds) := (RR wr BW).2
        have OB : Hid (∀ b ∈ ds, b < 256) := ob
        have LS : Hid (lenJ os (i + 1) = lenJ os i + ds.length ∧ lenJ os (i + 1) ≤ 4096 ∧ ds.length ≤ 4096) := ⟨ls, l4, ol⟩
        clear ob ol ls l4 RR BW
        go_upto_region 15 with (first
          | (refine step_load rfl 38 _ rfl g (off + i * 5) rfl [.int .i64 k, .int .i64 a, .int .i64 b, .int .i64 z, .slice x ds.length c] _ RG.out Tryd.underlying38 rfl rfl ?_)
          | ((with_reducible refine at_store ?_); refine step_store rfl 38 _ _ rfl wr.heap.size 0 38 ojZ [.int .i64 k, .int .i64 a, .int .i64 b, .int .i64 z, .slice x ds.length c] rfl rfl (Blk.new 38 ojZ wr) (Nat.le_refl _) rfl (ojL_one ⟨k, a, b, z, ds⟩ x c) ?_; intro w1 nb g1; have B1 : Hid (Blk wr.heap.size 38 [.int .i64 k, .int .i64 a, .int .i64 b, .int .i64 z, .slice x ds.length c] w1 ∧ Below wr.heap.size wr w1) := ⟨blk_put (Nat.le_refl _) nb, below_row (below_alloc _ _) g1 (Nat.le_refl _)⟩; clear nb g1))
        have L1 : Hid (JL w R J S f ep sn rs o n w1) := CI0.out.l.later B1.out.2
        have R1 : Hid (RdB w1 (.slice x ds.length c) ds) := Rd.later RD.out B1.out.2
        have T1 : Hid (TabS w1) := TT.out w1 L1.out.b
        have c0 := B1.out.1.cell 0 _ rfl
        have c4 := B1.out.1.cell 4 _ rfl
        have CF : Hid (st = more o ∧ n ≤ 2 + 3 * i ∧ ep ≤ 1 + i ∧ rs.length ≤ i ∧ (jf ep sn rs).length ≤ 28 + bs.length + 9 * i + lenJ os i) := ⟨CI0.out.hst, CI0.out.hn, CI0.out.hep, CI0.out.hrs, CI0.out.hx⟩
        have WRS : Hid (∀ J' S' f' ep' sn' rs' o' n' w', JL w R J' S' f' ep' sn' rs' o' n' w' → Calls Tryd.prog 11 #[.pointer (some ⟨R, 0, none⟩)] w' fun e w'' => e = .returned (.int .i64 n') ∧ w' = w'') := fun J' S' f' ep' sn' rs' o' n' w' hj => (writes_at R S' _ w' hj.d).mono fun e w'' ⟨h1, h2⟩ => ⟨by rw [h1, D2_wr], h2.symm⟩
        obtain ⟨P, hP⟩ : ∃ P, wr.heap.size = P := ⟨_, rfl⟩
        rw [hP] at c0 c4 ⊢
        clear hP CI0 RG RD B1 HH
        by_cases k1 : k = 1
        · have d1 : (k == 1) = true := by rw [k1]; rfl
          clear k1
          have C1 : Hid (Calls Tryd.prog 10 #[.slice x ds.length c] w1 (NewB w1 ds)) := CP.out ds _ w1 LS.out.2.2 R1.out
          go_wp2_with fail
          refine C1.out.mono ?_
          rintro e w2 ⟨v2, rfl, r2, b2⟩
          obtain ⟨a2, c2, rfl, -, -⟩ := (RowV.rd r2).len
          rw [List.length_map] at r2
          have A2 : Hid (Calls Tryd.prog 13 #[.pointer (some ⟨J, 0, none⟩), .slice a2 ds.length c2] w2 fun e w' => e = .returned (.int .i64 0) ∧ ∃ S', JL w R J S' f ep sn (rs ++ [ds]) o (n + 2) w') := jl_append (L1.out.later b2) ⟨by omega, by omega⟩ (by have := CF.out; omega) ds a2 _ c2 OB.out LS.out.2.2 (by have := CF.out; have := LS.out; omega) (RowV.rd r2) (TT.out w2 (below_trans L1.out.b b2))
          clear r2 b2 C1 L1 R1 T1 c0 c4
          rw [List.length_map]
          go_wp2_with fail
          refine A2.out.mono ?_
          rintro e w3 ⟨rfl, S3, j3⟩
          have J3 : Hid (JL w R J S3 f ep sn (rs ++ [ds]) o (n + 2) w3) := j3
          have W3 : Hid (Calls Tryd.prog 11 #[.pointer (some ⟨R, 0, none⟩)] w3 fun e w'' => e = .returned (.int .i64 (n + 2)) ∧ w3 = w'') := WRS.out _ _ _ _ _ _ _ _ w3 j3
          clear j3 A2 WRS
          go_wp2_with fail
          refine W3.out.mono ?_
          rintro e w' ⟨rfl, rfl⟩
          go_wp2_with fail
          go_roundw
          case rel =>
            have h1 := CF.out
            have h2 := LS.out
            exact ⟨J, S3, f, ep, sn, rs ++ [ds], o, i + 1, n + 2, st, rfl, rfl, by go_num, rfl, by go_num, by omega, by omega, hst, ⟨J3.out, h1.1, by omega, by omega, by rw [List.length_append]; simp; omega, by rw [jf_len_push]; omega⟩⟩
          case measure => simp [intOf]; omega
        · have d1 : (k == 1) = false := beq_eq_false_iff_ne.2 k1
          clear k1
          by_cases k2 : k = 2
          · have d2 : (k == 2) = true := by rw [k2]; rfl
            clear k2
            have C1 : Hid (Calls Tryd.prog 10 #[.slice x ds.length c] w1 (NewB w1 ds)) := CP.out ds _ w1 LS.out.2.2 R1.out
            go_wp2_with fail
            refine C1.out.mono ?_
            rintro e w2 ⟨v2, rfl, r2, b2⟩
            obtain ⟨a2, c2, rfl, -, -⟩ := (RowV.rd r2).len
            rw [List.length_map] at r2
            have A2 : Hid (Calls Tryd.prog 14 #[.pointer (some ⟨J, 0, none⟩), .slice a2 ds.length c2] w2 fun e w' => e = .returned (.int .i64 0) ∧ ∃ S', JL w R J S' (1 - f) (ep + 1) ds [] (jf ep sn rs) (n + 2 + st) w') := by
              have := jl_compact (L1.out.later b2) ⟨by omega, by omega⟩ ds a2 _ c2 OB.out LS.out.2.2 (by have := CF.out; omega) (RowV.rd r2) (TT.out w2 (below_trans L1.out.b b2))
              rw [CF.out.1]; exact this
            clear r2 b2 C1 L1 R1 T1 c0 c4
            rw [List.length_map]
            go_wp2_with fail
            refine A2.out.mono ?_
            rintro e w3 ⟨rfl, S3, j3⟩
            have J3 : Hid (JL w R J S3 (1 - f) (ep + 1) ds [] (jf ep sn rs) (n + 2 + st) w3) := j3
            have W3 : Hid (Calls Tryd.prog 11 #[.pointer (some ⟨R, 0, none⟩)] w3 fun e w'' => e = .returned (.int .i64 (n + 2 + st)) ∧ w3 = w'') := WRS.out _ _ _ _ _ _ _ _ w3 j3
            clear j3 A2 WRS
            go_wp2_with fail
            refine W3.out.mono ?_
            rintro e w' ⟨rfl, rfl⟩
            go_wp2_with fail
            go_roundw
            case rel =>
              have h1 := CF.out
              have h2 := LS.out
              have h3 := jf_len1 (ep + 1) ds (by omega)
              exact ⟨J, S3, 1 - f, ep + 1, ds, [], jf ep sn rs, i + 1, n + 2 + st, 1, rfl, rfl, by go_num, rfl, by go_num, by omega, by omega, by omega, ⟨J3.out, (more_jf ep sn rs).symm, by omega, by omega, by simp, by omega⟩⟩
            case measure => simp [intOf]; omega
          · have d2 : (k == 2) = false := beq_eq_false_iff_ne.2 k2
            clear k2
            by_cases k3 : k = 3
            · have d3 : (k == 3) = true := by rw [k3]; rfl
              clear k3
              have A2 : Hid (Calls Tryd.prog 12 #[.pointer (some ⟨R, 0, none⟩)] w1 fun e w' => ∃ G v1 v2, ∃ (S' : Nat → Prop), e = .returned (.tuple #[.pointer (some ⟨G, 0, none⟩), .agg #[.int .i64 ep, v1, v2, .int .i64 0], .int .i64 0]) ∧ JL w R G S' f ep sn rs [] (n + st) w') := (jl_open L1.out ⟨by omega, by omega⟩ T1.out).mono fun e w' ⟨G, sv, rv, S', h1, h2, _⟩ => ⟨G, sv, rv, S', h1, by rw [CF.out.1]; exact h2⟩
              clear L1 R1 T1 c4
              go_wp2_with fail
              refine A2.out.mono ?_
              rintro e w3 ⟨G, v1, v2, S3, rfl, j3⟩
              have J3 : Hid (JL w R G S3 f ep sn rs [] (n + st) w3) := j3
              have W3 : Hid (Calls Tryd.prog 11 #[.pointer (some ⟨R, 0, none⟩)] w3 fun e w'' => e = .returned (.int .i64 (n + st)) ∧ w3 = w'') := WRS.out _ _ _ _ _ _ _ _ w3 j3
              clear j3 A2 WRS c0
              go_wp2_with fail
              refine W3.out.mono ?_
              rintro e w' ⟨rfl, rfl⟩
              go_wp2_with fail
              go_roundw
              case rel =>
                have h1 := CF.out
                have h2 := LS.out
                exact ⟨G, S3, f, ep, sn, rs, [], i + 1, n + st, 0, rfl, rfl, by go_num, rfl, by go_num, by omega, by omega, by omega, ⟨J3.out, more_nil.symm, by omega, by omega, by omega, by omega⟩⟩
              case measure => simp [intOf]; omega
            · have d3 : (k == 3) = false := beq_eq_false_iff_ne.2 k3
              clear k3
              have W3 : Hid (Calls Tryd.prog 11 #[.pointer (some ⟨R, 0, none⟩)] w1 fun e w'' => e = .returned (.int .i64 n) ∧ w1 = w'') := WRS.out _ _ _ _ _ _ _ _ w1 L1.out
              clear WRS c4
              go_wp2_with fail
              refine W3.out.mono ?_
              rintro e w' ⟨rfl, rfl⟩
              go_wp2_with fail
              go_roundw
              case rel =>
                have h1 := CF.out
                have h2 := LS.out
                exact ⟨J, S, f, ep, sn, rs, o, i + 1, n, st, rfl, rfl, rfl, rfl, by go_num, by omega, by omega, hst, ⟨L1.out, h1.1, by omega, by omega, by omega, by omega⟩⟩
              case measure => simp [intOf]; omega
      · have BW : Hid (Below w.heap.size w wr) := CI0.out.l.b
        clear CI0
        go_wp2_with fail
        go_ret
        exact ⟨rfl, BW.out⟩
  · have FT' : Hid (Calls Tryd.prog 7 #[va, vb] w fun e w' => e = .returned (.bool false) ∧ w = w') := FT.mono fun e w' ⟨h1, h2⟩ => ⟨by rw [h1, decide_eq_false hf], h2.symm⟩
    clear FT hf h h' hb ho hd hbb hob hT
    go_enter Tryd.func3, Tryd.ntmps3
    go_wp2_with fail
    refine FT'.out.mono ?_
    rintro e w' ⟨rfl, rfl⟩
    go_wp2_with fail
    go_ret
    exact ⟨rfl, Below.refl _ _⟩
end Go.Proofs.YtcmfehabcklbpaaDoor
