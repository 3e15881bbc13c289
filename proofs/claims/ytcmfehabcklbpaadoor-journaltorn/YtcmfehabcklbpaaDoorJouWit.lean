/-
  Ours: the statements' with, holds; lists of what came in.
-/
import Derived.Test.YtcmfehabcklbpaaDoorJouLaw
namespace Go.Proofs.YtcmfehabcklbpaaDoor
open Go.RowKit JM

/-- A disk without a crash, all durable: x in the file f, o in the other. -/
def D2 (f : Nat) (x o : List Nat) (wr : Int) : Dk := if f = 0 then ⟨x, x.length, o, o.length, [], wr, false⟩ else ⟨o, o.length, x, x.length, [], wr, false⟩
theorem D2_dn (f : Nat) (x o : List Nat) (wr : Int) : (D2 f x o wr).dn = false := by unfold D2; split <;> rfl
theorem D2_wr (f : Nat) (x o : List Nat) (wr : Int) : (D2 f x o wr).wr = wr := by unfold D2; split <;> rfl
theorem D2_x {f : Nat} (hf : f = 0 ∨ f = 1) (x o : List Nat) (wr : Int) : (D2 f x o wr).fbN f = x := by rcases hf with rfl | rfl <;> rfl
theorem D2_o {f : Nat} (hf : f = 0 ∨ f = 1) (x o : List Nat) (wr : Int) : (D2 f x o wr).ob f = o := by rcases hf with rfl | rfl <;> rfl
theorem D2_lay {f : Nat} (hf : f = 0 ∨ f = 1) (x o F : List Nat) (wr : Int) (h : x.length + F.length ≤ 16777216) : (D2 f x o wr).lay f F = (D2 f (x ++ F) o (wr + 2), 0) := by
  rcases hf with rfl | rfl
  · have e : (D2 0 x o wr).append 0 F = (⟨x ++ F, x.length, o, o.length, [], wr + 1, false⟩, 0) := by
      show (if (0 : Int) ≠ 0 then _ else if 16777216 < x.length + F.length then _ else _) = _
      rw [if_neg (by omega), if_neg (by omega)]; rfl
    have s : (⟨x ++ F, x.length, o, o.length, [], wr + 1, false⟩ : Dk).sync 0 = (⟨x ++ F, (x ++ F).length, o, o.length, [], wr + 1 + 1, false⟩, 0) := rfl
    show (if ((D2 0 x o wr).append 0 F).2 ≠ 0 then _ else ((D2 0 x o wr).append 0 F).1.sync 0) = _
    rw [e, if_neg (by simp), s, show wr + 1 + 1 = wr + 2 by omega]; rfl
  · have e : (D2 1 x o wr).append 1 F = (⟨o, o.length, x ++ F, x.length, [], wr + 1, false⟩, 0) := by
      show (if (0 : Int) ≠ 0 then _ else if 16777216 < x.length + F.length then _ else _) = _
      rw [if_neg (by omega), if_neg (by omega)]; rfl
    have s : (⟨o, o.length, x ++ F, x.length, [], wr + 1, false⟩ : Dk).sync 1 = (⟨o, o.length, x ++ F, (x ++ F).length, [], wr + 1 + 1, false⟩, 0) := rfl
    show (if ((D2 1 x o wr).append 1 F).2 ≠ 0 then _ else ((D2 1 x o wr).append 1 F).1.sync 1) = _
    rw [e, if_neg (by simp), s, show wr + 1 + 1 = wr + 2 by omega]; rfl
theorem D2_cut {f : Nat} (x o : List Nat) (wr : Int) {n : Nat} (h : x.length = n) : (D2 f x o wr).cut f x.length n = (D2 f x o wr, 0) := by
  unfold Dk.cut; rw [if_pos h]
/-- A write more, where there is something to cut. -/
def more (o : List Nat) : Int := if o.length = 0 then 0 else 1
theorem D2_durable (x o : List Nat) (wr : Int) : (D2 0 x o wr).durable 0 = (x, 0) := by
  show (if (0 : Int) = 0 ∨ (0 : Int) = 1 then (x.take x.length, (0 : Int)) else _) = _
  rw [if_pos (by omega), List.take_length]
theorem D2_cuto {f : Nat} (hf : f = 0 ∨ f = 1) (x o : List Nat) (wr : Int) : (D2 f x o wr).cut (1 - (f : Int)) o.length 0 = (D2 f x [] (wr + more o), 0) := by
  unfold Dk.cut more
  by_cases h : o.length = 0
  · rw [if_pos h, if_pos h]
    obtain rfl : o = [] := List.length_eq_zero_iff.1 h
    rw [Int.add_zero]
  · rw [if_neg h, if_neg h]
    rcases hf with rfl | rfl
    · show (if (0 : Int) ≠ 0 then _ else if ((0 : Nat) : Int) < 0 ∨ (o.length : Int) < ((0 : Nat) : Int) then _ else _) = _
      rw [if_neg (by omega), if_neg (by omega)]; rfl
    · show (if (0 : Int) ≠ 0 then _ else if ((0 : Nat) : Int) < 0 ∨ (o.length : Int) < ((0 : Nat) : Int) then _ else _) = _
      rw [if_neg (by omega), if_neg (by omega)]; rfl
theorem D2_turn {f : Nat} (hf : f = 0 ∨ f = 1) (x o : List Nat) (wr : Int) : D2 f x o wr = D2 (1 - f) o x wr := by rcases hf with rfl | rfl <;> rfl
theorem oneSub {f : Nat} (hf : f = 0 ∨ f = 1) : ((1 - f : Nat) : Int) = 1 - (f : Int) := by rcases hf with rfl | rfl <;> rfl
theorem oneSub01 {f : Nat} (_hf : f = 0 ∨ f = 1) : 1 - f = 0 ∨ 1 - f = 1 := by omega
theorem D2_read {f : Nat} (hf : f = 0 ∨ f = 1) (x o : List Nat) (wr : Int) : (D2 f x o wr).read (1 - (f : Int)) = (o, 0) := by rcases hf with rfl | rfl <;> rfl
theorem D2_renew {f : Nat} (hf : f = 0 ∨ f = 1) (x o F : List Nat) (wr : Int) (h : F.length ≤ 16777216) : (D2 f x o wr).renew (1 - (f : Int)) F = (D2 (1 - f) F x (wr + 2 + more o), 0) := by
  unfold Dk.renew
  rw [D2_read hf, if_neg (by simp)]
  show (if ((D2 f x o wr).cut (1 - (f : Int)) o.length 0).2 ≠ 0 then _ else ((D2 f x o wr).cut (1 - (f : Int)) o.length 0).1.lay (1 - (f : Int)) F) = _
  rw [D2_cuto hf, if_neg (by simp), D2_turn hf, ← oneSub hf]
  show (D2 (1 - f) [] x (wr + more o)).lay ((1 - f : Nat) : Int) F = _
  rw [D2_lay (oneSub01 hf) _ _ _ _ (by simpa using h), List.nil_append, show wr + more o + 2 = wr + 2 + more o by omega]
theorem D2_fmt (F : List Nat) (h : F.length ≤ 16777216) : (Dk.load [] []).fmt F = (D2 0 F [] 2, 0) := by
  have e : Dk.load [] [] = D2 0 [] [] 0 := rfl
  rw [e]
  have c1 : (D2 0 [] [] 0).cut 1 ([] : List Nat).length 0 = (D2 0 [] [] 0, 0) := rfl
  have c0 : (D2 0 [] [] 0).cut 0 ([] : List Nat).length 0 = (D2 0 [] [] 0, 0) := rfl
  have l : (D2 0 [] [] 0).lay 0 F = (D2 0 F [] 2, 0) := D2_lay (f := 0) (.inl rfl) [] [] F 0 (by simpa using h)
  unfold Dk.fmt
  rw [if_neg (by rw [D2_dn]; decide)]
  show (if ((D2 0 [] [] 0).cut 1 ([] : List Nat).length 0).2 ≠ 0 then _ else if (((D2 0 [] [] 0).cut 1 ([] : List Nat).length 0).1.cut 0 ([] : List Nat).length 0).2 ≠ 0 then _ else (((D2 0 [] [] 0).cut 1 ([] : List Nat).length 0).1.cut 0 ([] : List Nat).length 0).1.lay 0 F) = _
  rw [c1, if_neg (by simp)]
  show (if ((D2 0 [] [] 0).cut 0 ([] : List Nat).length 0).2 ≠ 0 then _ else ((D2 0 [] [] 0).cut 0 ([] : List Nat).length 0).1.lay 0 F) = _
  rw [c0, if_neg (by simp)]
  exact l

theorem jf_len1 (ep : Nat) (sn : List Nat) (he : ep ≤ 1000000000) : (jf ep sn []).length ≤ 19 + sn.length := by
  have := put_len10 ep (by omega)
  rw [jf_len, CrcM.enc_len, List.map_nil, join_nil]; simp [hp]; omega
theorem jf_len_push (ep : Nat) (sn : List Nat) (rs : List (List Nat)) (r : List Nat) : (jf ep sn (rs ++ [r])).length = (jf ep sn rs).length + r.length + 9 := by
  rw [jf_push, List.length_append, CrcM.enc_len]; simp [rp]; omega
/-- What is in a journal's files. -/
structure JB (f ep : Nat) (sn : List Nat) (rs : List (List Nat)) (o : List Nat) : Prop where
  f01 : f = 0 ∨ f = 1
  old : Old ep o
  e1 : 1 ≤ ep
  e2 : ep ≤ 1000000000
  sb : ∀ b ∈ sn, b < 256
  sl : sn.length ≤ 4096
  rb : ∀ r ∈ rs, ∀ b ∈ r, b < 256
  rl : ∀ r ∈ rs, r.length ≤ 4096
  ob : ∀ b ∈ o, b < 256
theorem JB.jr {f ep : Nat} {sn : List Nat} {rs : List (List Nat)} {o : List Nat} (h : JB f ep sn rs o) (wr : Int) : Jr (D2 f (jf ep sn rs) o wr) f ep sn rs [] :=
  ⟨h.f01, by rw [D2_x h.f01, List.append_nil], Mute.nil, by rw [D2_o h.f01]; exact h.old, h.e1, by have := h.e2; omega, h.sb, by have := h.sl; omega, h.rb, fun r hr => by have := h.rl r hr; omega, (fun b hb => nomatch hb), by rw [D2_o h.f01]; exact h.ob⟩
theorem JB.push {f ep : Nat} {sn r o : List Nat} {rs : List (List Nat)} (h : JB f ep sn rs o) (hr : ∀ b ∈ r, b < 256) (hl : r.length ≤ 4096) : JB f ep sn (rs ++ [r]) o :=
  ⟨h.f01, h.old, h.e1, h.e2, h.sb, h.sl, fun x hx => (List.mem_append.1 hx).elim (h.rb x) (fun e => by rw [List.mem_singleton.1 e]; exact hr), fun x hx => (List.mem_append.1 hx).elim (h.rl x) (fun e => by rw [List.mem_singleton.1 e]; exact hl), h.ob⟩
theorem JB.next {f ep : Nat} {sn s o : List Nat} {rs : List (List Nat)} (h : JB f ep sn rs o) (hr : ∀ b ∈ s, b < 256) (hl : s.length ≤ 4096) (he : ep < 1000000000) : JB (1 - f) (ep + 1) s [] (jf ep sn rs) :=
  ⟨oneSub01 h.f01, by unfold jf; exact Old.head ep sn _ h.e1 (by omega) h.sb (by have := h.sl; omega), by omega, by omega, hr, hl, (fun r hr => nomatch hr), (fun r hr => nomatch hr), jf_lt ep sn rs h.sb h.rb⟩
theorem JB.clear {f ep : Nat} {sn o : List Nat} {rs : List (List Nat)} (h : JB f ep sn rs o) : JB f ep sn rs [] := ⟨h.f01, Old.nil ep, h.e1, h.e2, h.sb, h.sl, h.rb, h.rl, fun _ hb => nomatch hb⟩
/-- A journal at J that lives on the disk at R, all made since w0. -/
structure JL (w0 : World) (R J : Nat) (S : Nat → Prop) (f ep : Nat) (sn : List Nat) (rs : List (List Nat)) (o : List Nat) (wr : Int) (w : World) : Prop where
  d : DkAt R S (D2 f (jf ep sn rs) o wr) w
  j : Blk J 72 (jnL R (f : Int) (ep : Int) (rs.length : Int) false) w
  n : ¬ S J
  sS : ∀ g, S g → w0.heap.size ≤ g
  sJ : w0.heap.size ≤ J
  b : Below w0.heap.size w0 w
  jb : JB f ep sn rs o
theorem JL.later {w0 : World} {R J : Nat} {S : Nat → Prop} {f ep : Nat} {sn : List Nat} {rs : List (List Nat)} {o : List Nat} {wr : Int} {w w1 : World} (h : JL w0 R J S f ep sn rs o wr w) (hb : Below w.heap.size w w1) : JL w0 R J S f ep sn rs o wr w1 :=
  ⟨h.d.below hb, h.j.below hb, h.n, h.sS, h.sJ, below_trans h.b hb, h.jb⟩
theorem Kp.over {M : Nat → Prop} {w0 w w' : World} (hb : Below w0.heap.size w0 w) (k : Kp M w w') (hM : ∀ g, M g → w0.heap.size ≤ g) : Below w0.heap.size w0 w' :=
  ⟨k.os.trans hb.os, k.tape.trans hb.tape, k.output.trans hb.output, Nat.le_trans hb.size k.size, fun g hg => (k.block g (Nat.lt_of_lt_of_le hg hb.size) (fun h => by have := hM g h; omega)).trans (hb.block g hg)⟩

/-- What else a call on a journal leaves. -/
def JX (J : Nat) (S S' : Nat → Prop) (w w' : World) : Prop := (∀ g, S' g → S g ∨ w.heap.size ≤ g) ∧ Kp (fun g => S g ∨ g = J) w w'
theorem JL.ofx {w0 : World} {R J : Nat} {S : Nat → Prop} {f ep f' ep' : Nat} {sn sn' : List Nat} {rs rs' : List (List Nat)} {o o' : List Nat} {wr wr' : Int} {w w' : World} (h : JL w0 R J S f ep sn rs o wr w) (hb : JB f' ep' sn' rs' o') (p : JnPost R J S w (D2 f' (jf ep' sn' rs') o' wr') (jnL R (f' : Int) (ep' : Int) (rs'.length : Int) false) w') : ∃ S', JL w0 R J S' f' ep' sn' rs' o' wr' w' ∧ JX J S S' w w' := by
  obtain ⟨S', d, g1, b, k⟩ := p
  have lt := h.j.lt
  refine ⟨S', ⟨d, b, fun hs => (g1 J hs).elim h.n (fun h => by omega), fun g hg => (g1 g hg).elim (h.sS g) (fun hh => Nat.le_trans h.b.size hh), h.sJ, Kp.over h.b k (fun g hg => ?_), hb⟩, g1, k⟩
  rcases hg with hg | rfl
  · exact h.sS g hg
  · exact h.sJ
theorem JL.of {w0 : World} {R J : Nat} {S : Nat → Prop} {f ep f' ep' : Nat} {sn sn' : List Nat} {rs rs' : List (List Nat)} {o o' : List Nat} {wr wr' : Int} {w w' : World} (h : JL w0 R J S f ep sn rs o wr w) (hb : JB f' ep' sn' rs' o') (p : JnPost R J S w (D2 f' (jf ep' sn' rs') o' wr') (jnL R (f' : Int) (ep' : Int) (rs'.length : Int) false) w') : ∃ S', JL w0 R J S' f' ep' sn' rs' o' wr' w' := by
  obtain ⟨S', d, g1, b, k⟩ := p
  have lt := h.j.lt
  refine ⟨S', d, b, fun hs => (g1 J hs).elim h.n (fun h => by omega), fun g hg => (g1 g hg).elim (h.sS g) (fun hh => Nat.le_trans h.b.size hh), h.sJ, Kp.over h.b k (fun g hg => ?_), hb⟩
  rcases hg with hg | rfl
  · exact h.sS g hg
  · exact h.sJ
theorem jl_appendx {w0 : World} {R J : Nat} {S : Nat → Prop} {f ep : Nat} {sn : List Nat} {rs : List (List Nat)} {o : List Nat} {wr : Int} {w : World} (h : JL w0 R J S f ep sn rs o wr w) (hw : 0 ≤ wr ∧ wr < 1000000000) (hn : rs.length ≤ 1000000000) (r : List Nat) (ad : Option Addr) (n c : Nat) (hr : ∀ b ∈ r, b < 256) (hl : r.length ≤ 4096) (hx : (jf ep sn rs).length + r.length + 9 ≤ 16777216) (hd : RdB w (.slice ad n c) r) (hT : TabS w) :
    Calls Tryd.prog 13 #[.pointer (some ⟨J, 0, none⟩), .slice ad n c] w fun e w' => e = .returned (.int .i64 0) ∧ ∃ S', JL w0 R J S' f ep sn (rs ++ [r]) o (wr + 2) w' ∧ JX J S S' w w' := by
  have e := D2_lay h.jb.f01 (jf ep sn rs) o (CrcM.enc (rp r)) wr (by rw [CrcM.enc_len]; simp [rp]; omega)
  refine (append_live R J S _ (f : Int) (ep : Int) (rs.length : Int) r ad n c w (by rw [D2_wr]; omega) (by omega) h.d (dkAt_size h.d) h.j h.n hr (by omega) hd hT).mono ?_
  rw [e]
  rintro x w' ⟨rfl, p⟩
  refine ⟨rfl, h.ofx (h.jb.push hr hl) ?_⟩
  rw [if_pos rfl] at p
  rw [jf_push, List.length_append]
  exact p
theorem jl_append {w0 : World} {R J : Nat} {S : Nat → Prop} {f ep : Nat} {sn : List Nat} {rs : List (List Nat)} {o : List Nat} {wr : Int} {w : World} (h : JL w0 R J S f ep sn rs o wr w) (hw : 0 ≤ wr ∧ wr < 1000000000) (hn : rs.length ≤ 1000000000) (r : List Nat) (ad : Option Addr) (n c : Nat) (hr : ∀ b ∈ r, b < 256) (hl : r.length ≤ 4096) (hx : (jf ep sn rs).length + r.length + 9 ≤ 16777216) (hd : RdB w (.slice ad n c) r) (hT : TabS w) :
    Calls Tryd.prog 13 #[.pointer (some ⟨J, 0, none⟩), .slice ad n c] w fun e w' => e = .returned (.int .i64 0) ∧ ∃ S', JL w0 R J S' f ep sn (rs ++ [r]) o (wr + 2) w' :=
  (jl_appendx h hw hn r ad n c hr hl hx hd hT).mono fun _ _ ⟨h1, S', h2, _⟩ => ⟨h1, S', h2⟩
theorem jl_compact {w0 : World} {R J : Nat} {S : Nat → Prop} {f ep : Nat} {sn : List Nat} {rs : List (List Nat)} {o : List Nat} {wr : Int} {w : World} (h : JL w0 R J S f ep sn rs o wr w) (hw : 0 ≤ wr ∧ wr < 1000000000) (r : List Nat) (ad : Option Addr) (n c : Nat) (hr : ∀ b ∈ r, b < 256) (hl : r.length ≤ 4096) (he : ep < 1000000000) (hd : RdB w (.slice ad n c) r) (hT : TabS w) :
    Calls Tryd.prog 14 #[.pointer (some ⟨J, 0, none⟩), .slice ad n c] w fun e w' => e = .returned (.int .i64 0) ∧ ∃ S', JL w0 R J S' (1 - f) (ep + 1) r [] (jf ep sn rs) (wr + 2 + more o) w' := by
  have hpl := put_len10 (ep + 1) (by omega)
  have e := D2_renew h.jb.f01 (jf ep sn rs) o (CrcM.enc (hp (ep + 1) r)) wr (by rw [CrcM.enc_len]; simp [hp]; omega)
  have f01 : (f : Int) = 0 ∨ (f : Int) = 1 := by have := h.jb.f01; omega
  refine (compact_live R J S _ (f : Int) ep (rs.length : Int) r ad n c w (by rw [D2_wr]; omega) f01 (by omega) h.d (dkAt_size h.d) h.j h.n hr (by omega) hd hT).mono ?_
  rw [e]
  rintro x w' ⟨rfl, p⟩
  refine ⟨rfl, h.of (h.jb.next hr hl he) ?_⟩
  rw [if_pos rfl] at p
  have e2 : jf (ep + 1) r [] = CrcM.enc (hp (ep + 1) r) := by unfold jf; rw [List.map_nil, join_nil, List.append_nil]
  rw [e2, oneSub h.jb.f01]
  exact p
theorem jl_open {w0 : World} {R J : Nat} {S : Nat → Prop} {f ep : Nat} {sn : List Nat} {rs : List (List Nat)} {o : List Nat} {wr : Int} {w : World} (h : JL w0 R J S f ep sn rs o wr w) (hw : 0 ≤ wr ∧ wr < 1000000000) (hT : TabS w) :
    Calls Tryd.prog 12 #[.pointer (some ⟨R, 0, none⟩)] w fun e w' => ∃ G sv rv S', e = .returned (.tuple #[.pointer (some ⟨G, 0, none⟩), .agg (rcL (ep : Int) sv rv 0).toArray, .int .i64 0]) ∧ JL w0 R G S' f ep sn rs [] (wr + more o) w' ∧ OwnT w.heap.size w' sv sn ∧ TlsV w.heap.size w' rv rs ∧ Kp S w w' := by
  refine (open_ok R S _ _ _ f ep sn rs [] w (h.jb.jr wr) (by rw [D2_wr]; omega) (D2_dn _ _ _ _) (by rw [D2_x h.jb.f01]; exact D2_cut _ _ _ rfl) (by rw [D2_o h.jb.f01]; exact D2_cuto h.jb.f01 _ _ _) h.d hT).mono ?_
  rintro e w' ⟨G, sv, rv, S', rfl, h1, h2, h3, h4, h5, h6, h7, h8⟩
  exact ⟨G, sv, rv, S', rfl, ⟨h2, h1, h4, fun g hg => (h3 g hg).elim (h.sS g) (fun hh => Nat.le_trans h.b.size hh), Nat.le_trans h.b.size h6, Kp.over h.b h5 h.sS, h.jb.clear⟩, h7, h8, h5⟩
/-- A new disk, formatted, and opened. -/
theorem jl_format {w0 : World} {R : Nat} {S : Nat → Prop} {w : World} (sn : List Nat) (ad : Option Addr) (n c : Nat) (h : DkAt R S (Dk.load [] []) w) (hS : ∀ g, S g → w0.heap.size ≤ g) (hb : Below w0.heap.size w0 w) (hr : ∀ b ∈ sn, b < 256) (hl : sn.length ≤ 4096) (hd : RdB w (.slice ad n c) sn) (hT : TabS w) :
    Calls Tryd.prog 9 #[.pointer (some ⟨R, 0, none⟩), .slice ad n c] w fun e w' => e = .returned (.int .i64 0) ∧ ∃ S', DkAt R S' (D2 0 (jf 1 sn []) [] 2) w' ∧ (∀ g, S' g → w0.heap.size ≤ g) ∧ Below w0.heap.size w0 w' := by
  have hpl := put_len10 1 (by omega)
  have e := D2_fmt (CrcM.enc (hp 1 sn)) (by rw [CrcM.enc_len]; simp [hp]; omega)
  have e2 : jf 1 sn [] = CrcM.enc (hp 1 sn) := by unfold jf; rw [List.map_nil, join_nil, List.append_nil]
  refine (formatD_up R S _ sn ad n c w ⟨by show (0 : Int) ≤ 0; omega, by show (0 : Int) < _; omega⟩ rfl h (dkAt_size h) hr (by omega) hd hT).mono ?_
  rw [e]
  rintro x w' ⟨rfl, S', d, g1, k⟩
  refine ⟨rfl, S', by rw [e2]; exact d, fun g hg => (g1 g hg).elim (hS g) (fun hh => Nat.le_trans hb.size hh), Kp.over hb k hS⟩
theorem jl_first {w0 : World} {R : Nat} {S : Nat → Prop} {w : World} (sn : List Nat) (h : DkAt R S (D2 0 (jf 1 sn []) [] 2) w) (hS : ∀ g, S g → w0.heap.size ≤ g) (hb : Below w0.heap.size w0 w) (hr : ∀ b ∈ sn, b < 256) (hl : sn.length ≤ 4096) (hT : TabS w) :
    Calls Tryd.prog 12 #[.pointer (some ⟨R, 0, none⟩)] w fun e w' => ∃ G sv rv S', e = .returned (.tuple #[.pointer (some ⟨G, 0, none⟩), .agg (rcL 1 sv rv 0).toArray, .int .i64 0]) ∧ JL w0 R G S' 0 1 sn [] [] 2 w' ∧ OwnT w.heap.size w' sv sn ∧ TlsV w.heap.size w' rv [] ∧ Kp S w w' := by
  have jb : JB 0 1 sn [] [] := ⟨.inl rfl, Old.nil 1, by omega, by omega, hr, hl, (fun r hr => nomatch hr), (fun r hr => nomatch hr), fun _ hb => nomatch hb⟩
  refine (open_ok R S _ _ _ 0 1 sn [] [] w (jb.jr 2) (by rw [D2_wr]; omega) (D2_dn _ _ _ _) (by rw [D2_x jb.f01]; exact D2_cut _ _ _ rfl) (by rw [D2_o jb.f01]; exact D2_cuto jb.f01 _ _ _) h hT).mono ?_
  rintro e w' ⟨G, sv, rv, S', rfl, h1, h2, h3, h4, h5, h6, h7, h8⟩
  exact ⟨G, sv, rv, S', rfl, ⟨h2, h1, h4, fun g hg => (h3 g hg).elim (hS g) (fun hh => Nat.le_trans hb.size hh), Nat.le_trans hb.size h6, Kp.over hb h5 hS, jb⟩, h7, h8, h5⟩
end Go.Proofs.YtcmfehabcklbpaaDoor

namespace Go.Proofs.YtcmfehabcklbpaaDoor
open Go.RowKit JM

/-- What came in ahead of w0. -/
def Inp (w0 : World) (v : Value) (bs : List Nat) : Prop := (∃ a c, v = .slice a bs.length c) ∧ ∀ w', Below w0.heap.size w0 w' → RdB w' v bs
/-- A list of one's own of what came in. -/
structure LstV (w0 : World) (base : Nat) (w : World) (v : Value) (ps : List (List Nat)) : Prop where
  row : ∃ vs : List Value, RowV 22 base w v vs ∧ vs.length = ps.length ∧ ∀ y ∈ vs.zip ps, Inp w0 y.1 y.2
theorem LstV.nil (w0 : World) (base : Nat) (w : World) : LstV w0 base w (.slice none 0 0) [] := ⟨[], RowV.nil _ _ _, rfl, fun _ hx => nomatch hx⟩
theorem LstV.later {w0 : World} {base : Nat} {w w' : World} {v : Value} {ps : List (List Nat)} (h : LstV w0 base w v ps) (hb : Below w.heap.size w w') : LstV w0 base w' v ps := by
  obtain ⟨vs, h1, h2, h3⟩ := h.row
  exact ⟨vs, RowV.later h1 hb, h2, h3⟩
theorem LstV.mono {w0 : World} {base base' : Nat} {w : World} {v : Value} {ps : List (List Nat)} (h : LstV w0 base w v ps) (hb : base' ≤ base) : LstV w0 base' w v ps := by
  obtain ⟨vs, h1, h2, h3⟩ := h.row
  exact ⟨vs, RowV.mono h1 hb, h2, h3⟩
theorem LstV.len {w0 : World} {base : Nat} {w : World} {v : Value} {ps : List (List Nat)} (h : LstV w0 base w v ps) : ∃ a c, v = .slice a ps.length c ∧ ps.length ≤ c := by
  obtain ⟨vs, h1, h2, -⟩ := h.row
  obtain ⟨a, c, e, hc, -⟩ := (RowV.rd h1).len
  exact ⟨a, c, by rw [← h2]; exact e, by rw [← h2]; exact hc⟩
theorem rd_zip {w : World} {v : Value} {vs : List Value} {ps : List (List Nat)} (hr : Rd w v vs) (hl : vs.length = ps.length) (hz : ∀ y ∈ vs.zip ps, (∃ a c, y.1 = .slice a y.2.length c) ∧ RdB w y.1 y.2) : RdR w v ps := by
  obtain ⟨ao, cap, rfl, hc, _, H⟩ := hr
  refine ⟨ao, cap, by rw [hl], by omega, fun i hi => ?_⟩
  obtain ⟨g, o, e1, lt, e2⟩ := H i (by omega)
  have hm : (vs[i], ps[i]) ∈ vs.zip ps := by
    have : (vs.zip ps)[i]? = some (vs[i], ps[i]) := by rw [List.getElem?_zip_eq_some]; exact ⟨List.getElem?_eq_getElem _, List.getElem?_eq_getElem _⟩
    exact List.mem_of_getElem? this
  obtain ⟨⟨a', c', e3⟩, hb⟩ := hz _ hm
  have hg : ps.getD i [] = ps[i] := by rw [List.getD_eq_getElem?_getD, List.getElem?_eq_getElem hi]; rfl
  refine ⟨g, o, a', c', e1, lt, ?_, ?_⟩
  · rw [e2, hg]; exact congrArg some e3
  · rw [hg, ← e3]; exact hb
theorem LstV.rd {w0 : World} {base : Nat} {w : World} {v : Value} {ps : List (List Nat)} (h : LstV w0 base w v ps) (hb : Below w0.heap.size w0 w) : RdR w v ps := by
  obtain ⟨vs, h1, h2, h3⟩ := h.row
  exact rd_zip (RowV.rd h1) h2 (fun y hy => ⟨(h3 y hy).1, (h3 y hy).2 w hb⟩)
theorem TlsV.rd {base : Nat} {w : World} {v : Value} {ps : List (List Nat)} (h : TlsV base w v ps) : RdR w v ps := by
  obtain ⟨vs, h1, h2, h3, -⟩ := h.row
  refine rd_zip (RowV.rd h1) h2 (fun y hy => ⟨?_, (h3 y hy).rd⟩)
  obtain ⟨g, o, c, e, -⟩ := (h3 y hy).len
  exact ⟨_, c, e⟩
theorem LstV.kp {w0 : World} {base : Nat} {w w' : World} {v : Value} {ps : List (List Nat)} {M : Nat → Prop} (h : LstV w0 base w v ps) (k : Kp M w w') (hm : ∀ g, base ≤ g → g < w.heap.size → ¬ M g) : LstV w0 base w' v ps := by
  obtain ⟨vs, h1, h2, h3⟩ := h.row
  exact ⟨vs, RowV.kp h1 k (fun g hg => hm g (RowV.block_ge h1 hg) (RowV.block_lt h1 hg)), h2, h3⟩
theorem LstV.kp3 {w0 : World} {base base' : Nat} {w1 w w' : World} {v : Value} {ps : List (List Nat)} {M : Nat → Prop} (h : LstV w0 base w v ps) (k : Kp M w w') (h1 : LstV w0 base' w1 v ps) (hm : ∀ g, M g → w1.heap.size ≤ g) : LstV w0 base w' v ps := by
  obtain ⟨vs, r, h2, h3⟩ := h.row
  obtain ⟨us, r1, -, -⟩ := h1.row
  exact ⟨vs, RowV.kp r k (fun g hg e => by have := hm g e; have := RowV.block_lt r1 hg; omega), h2, h3⟩
/-- A state's cells. -/
def stL (ep : Int) (sv rv : Value) : List Value := [.int .i64 ep, sv, rv]
def stZ : List Value := [.int .i64 0, .slice none 0 0, .slice none 0 0]
theorem stL_one (ep : Int) (a b : Option Addr) (l m c d : Nat) : ∀ v ∈ stL ep (.slice a l c) (.slice b m d), v.oneCell' = true := by
  intro v hv
  simp [stL] at hv
  rcases hv with rfl | rfl | rfl <;> rfl

set_option maxRecDepth 40000 in
set_option maxHeartbeats 2000000 in
theorem with_at (w0 : World) (ep : Int) (a1 : Option Addr) (n1 c1 : Nat) (rv x : Value) (rs : List (List Nat)) (r : List Nat) (base : Nat) (w : World) (h : LstV w0 base w rv rs) (hx : Inp w0 x r) (hn : rs.length ≤ 1000000) :
    Calls Tryd.prog 20 #[.agg #[.int .i64 ep, .slice a1 n1 c1, rv], x] w fun e w' => ∃ a3 n3 c3, e = .returned (.agg #[.int .i64 ep, .slice a1 n1 c1, .slice a3 n3 c3]) ∧ LstV w0 w.heap.size w' (.slice a3 n3 c3) (rs ++ [r]) ∧ Below w.heap.size w w' := by
  obtain ⟨i0, hi, hz0, hz1, hz2⟩ := info_parts infoTl
  obtain ⟨vs, r1, l1, I1⟩ := h.row
  obtain ⟨ao, cap, e, hc, hno, H⟩ := RowV.rd r1
  subst e
  obtain ⟨⟨ax, cx, rfl⟩, hx2⟩ := hx
  have HX : Hid (Inp w0 (.slice ax r.length cx) r) := ⟨⟨ax, cx, rfl⟩, hx2⟩
  have HH : Hid (∀ i, i < vs.length → ∃ g o a' m' c', ao = some ⟨g, o, none⟩ ∧ (∀ w', Below w.heap.size w w' → w'.cell? ⟨g, o + i, none⟩ = some (.slice a' m' c')) ∧ vs.take (i + 1) = vs.take i ++ [.slice a' m' c']) := fun i hi => by
    obtain ⟨g, o, e1, lt, e2⟩ := H i hi
    have hm : (vs[i], rs[i]'(by omega)) ∈ vs.zip rs := by
      have : (vs.zip rs)[i]? = some (vs[i], rs[i]'(by omega)) := by rw [List.getElem?_zip_eq_some]; exact ⟨List.getElem?_eq_getElem _, List.getElem?_eq_getElem _⟩
      exact List.mem_of_getElem? this
    obtain ⟨a', c', e3⟩ := (I1 _ hm).1
    have e3' : vs[i] = .slice a' (rs[i]'(by omega)).length c' := e3
    refine ⟨g, o, a', (rs[i]'(by omega)).length, c', e1, fun w' hb => ?_, ?_⟩
    · rw [hb.cell (p := ⟨g, o + i, none⟩) lt, e2, e3']
    · rw [List.take_add_one, List.getElem?_eq_getElem hi, e3']; rfl
  have LL : Hid ((vs ++ [Value.slice ax r.length cx]).length = (rs ++ [r]).length ∧ ∀ y ∈ (vs ++ [Value.slice ax r.length cx]).zip (rs ++ [r]), Inp w0 y.1 y.2) := by
    refine ⟨by simp [l1], fun y hy => ?_⟩
    rw [List.zip_append l1] at hy
    rcases List.mem_append.1 hy with h | h
    · exact I1 y h
    · simp at h; subst h; exact HX.out
  have HF : Hid (vs.take vs.length = vs) := List.take_length
  have hL : vs.length ≤ 1000000 := by omega
  clear r1 l1 I1 H hx2 h hn hno
  generalize vs.length = L at *
  have BX : Hid (Blk w.heap.size 49 [.int .i64 ep, .slice a1 n1 c1, .slice ao L cap] ((w.alloc (.cells #[.int .i64 ep, .slice a1 n1 c1, .slice ao L cap] 49)).alloc (.cells #[.int .i64 0, .slice none 0 0, .slice none 0 0] 49)) ∧ Blk (w.heap.size + 1) 49 stZ ((w.alloc (.cells #[.int .i64 ep, .slice a1 n1 c1, .slice ao L cap] 49)).alloc (.cells #[.int .i64 0, .slice none 0 0, .slice none 0 0] 49)) ∧ Below w.heap.size w ((w.alloc (.cells #[.int .i64 ep, .slice a1 n1 c1, .slice ao L cap] 49)).alloc (.cells #[.int .i64 0, .slice none 0 0, .slice none 0 0] 49)) ∧ w.heap.size + 2 ≤ ((w.alloc (.cells #[.int .i64 ep, .slice a1 n1 c1, .slice ao L cap] 49)).alloc (.cells #[.int .i64 0, .slice none 0 0, .slice none 0 0] 49)).heap.size) :=
    ⟨(Blk.new 49 [.int .i64 ep, .slice a1 n1 c1, .slice ao L cap] w).old _, Blk.new2 49 stZ w _, below_trans (below_alloc _ _) (below_alloc _ _), by simp⟩
  go_enter Tryd.func20, Tryd.ntmps20
  go_wp2_with fail
  generalize (w.alloc (.cells #[.int .i64 ep, .slice a1 n1 c1, .slice ao L cap] 49)).alloc (.cells #[.int .i64 0, .slice none 0 0, .slice none 0 0] 49) = W at *
  go_loopw [5, 6] (fun vl vi wr => ∃ k : Nat, vi = .int .i64 (k : Int) ∧ k ≤ L ∧ Hid (RowV 22 (w.heap.size + 2) wr vl (vs.take k)) ∧ Hid (Below w.heap.size w wr ∧ w.heap.size + 2 ≤ wr.heap.size) ∧ Hid (Blk w.heap.size 49 [.int .i64 ep, .slice a1 n1 c1, .slice ao L cap] wr) ∧ Hid (Blk (w.heap.size + 1) 49 stZ wr)) (fun _ vi _ => L - (intOf vi).toNat)
  case atStart => exact ⟨0, rfl, by omega, RowV.nil _ _ _, ⟨BX.out.2.2.1, BX.out.2.2.2⟩, BX.out.1, BX.out.2.1⟩
  case round =>
    clear BX
    obtain ⟨k, rfl, hk, Q1, H3, K1, K2⟩ := hrel
    have c2 := K1.out.cell 2 _ rfl
    have own1 := Q1.out
    have hs1 : w.heap.size + 2 ≤ wr.heap.size := H3.out.2
    have KK : Hid (∀ w2 v', RowV 22 (w.heap.size + 2) w2 v' (vs.take k) → ∀ w3, w2.grownBy w3 v'.ownBlock → Blk w.heap.size 49 [.int .i64 ep, .slice a1 n1 c1, .slice ao L cap] w2 → Blk (w.heap.size + 1) 49 stZ w2 → Blk w.heap.size 49 [.int .i64 ep, .slice a1 n1 c1, .slice ao L cap] w3 ∧ Blk (w.heap.size + 1) 49 stZ w3) := fun w2 v' hr w3 hg b1 b2 => by
      have kp := Kp.of_grown hg
      exact ⟨b1.kp kp (fun e => by have := RowV.block_ge hr e; omega), b2.kp kp (fun e => by have := RowV.block_ge hr e; omega)⟩
    by_cases hlt : (k : Int) < (L : Int)
    · obtain ⟨g, o, a', m', c', rfl, hc', ht⟩ := HH.out k (by omega)
      have e1 := hc' wr H3.out.1
      have l1 : (vs.take k).length + 1 ≤ maxLen := by rw [List.length_take]; unfold maxLen; omega
      have l2 : ((vs.take k).length + 1) * 24 ≤ 140737488355328 := by rw [List.length_take]; omega
      have HT : Hid (vs.take (k + 1) = vs.take k ++ [.slice a' m' c']) := ht
      clear hc' ht HH
      go_wp2_with (at_builtin; refine wpList_pushV rfl (.tmp 14) (.tmp 20) 32 rfl 22 i0 (.slice none 0 0) 24 underTl hi hz0 hz1 hz2 rfl (w.heap.size + 2) _ _ _ rfl rfl own1 hs1 rfl l1 l2 ?_; intro v' w2 hown' hgr)
      have T2 : Hid (RowV 22 (w.heap.size + 2) w2 v' (vs.take (k + 1))) := by show RowV _ _ _ _ _; rw [HT.out]; exact hown'
      have B2 : Hid (Below w.heap.size w w2 ∧ w.heap.size + 2 ≤ w2.heap.size) := ⟨below_grown H3.out.1 own1 (by omega) H3.out.1.size hgr, Nat.le_trans hs1 hgr.size⟩
      have K3 := KK.out _ _ own1 _ hgr K1.out K2.out
      go_roundw
      case rel => exact ⟨k + 1, by go_num, by omega, T2, B2, K3.1, K3.2⟩
      case measure => simp [intOf]; omega
    · obtain rfl : k = L := by omega
      have l1 : (vs.take k).length + 1 ≤ maxLen := by rw [List.length_take]; unfold maxLen; omega
      have l2 : ((vs.take k).length + 1) * 24 ≤ 140737488355328 := by rw [List.length_take]; omega
      clear HH
      go_upto_region 7 with (at_builtin; refine wpList_pushV rfl (.tmp 22) (.tmp 24) 32 rfl 22 i0 (.slice none 0 0) 24 underTl hi hz0 hz1 hz2 rfl (w.heap.size + 2) _ _ _ rfl rfl own1 hs1 rfl l1 l2 ?_; intro v' w2 hown' hgr)
      have T2 : Hid (RowV 22 (w.heap.size + 2) w2 v' (vs ++ [.slice ax r.length cx])) := by show RowV _ _ _ _ _; rw [HF.out] at hown'; exact hown'
      have B2 : Hid (Below w.heap.size w w2) := below_grown H3.out.1 own1 (by omega) H3.out.1.size hgr
      have K3 := KK.out _ _ own1 _ hgr K1.out K2.out
      obtain ⟨a3, c3, e3, -⟩ := (RowV.rd T2.out).len
      subst e3
      have d0 := K3.1.cell 0 _ rfl
      have d1 := K3.1.cell 1 _ rfl
      have K4 : Hid (Blk (w.heap.size + 1) 49 stZ w2) := K3.2
      clear K3 hown' hgr own1 KK K1 K2 c2 Q1 H3
      obtain ⟨n3, hn3⟩ : ∃ n3, (vs ++ [Value.slice ax r.length cx]).length = n3 := ⟨_, rfl⟩
      rw [hn3] at T2 ⊢
      clear hn3
      go_wp2_with ((with_reducible refine at_store ?_); refine step_store rfl 49 _ _ rfl (w.heap.size + 1) 0 49 stZ [.int .i64 ep, .slice a1 n1 c1, .slice a3 n3 c3] rfl rfl K4.out (Nat.le_refl _) rfl (stL_one _ _ _ _ _ _ _) ?_; intro w4 nb g4; have B4 : Hid (Blk (w.heap.size + 1) 49 [.int .i64 ep, .slice a1 n1 c1, .slice a3 n3 c3] w4 ∧ Below w.heap.size w w4 ∧ RowV 22 (w.heap.size + 2) w4 (.slice a3 n3 c3) (vs ++ [.slice ax r.length cx])) := ⟨blk_put (Nat.le_refl _) nb, below_row B2.out g4 (by omega), RowV.kept T2.out g4 (fun g' hg' e' => by injection e' with e'; have := RowV.block_ge T2.out hg'; omega)⟩; clear nb g4)
      refine ret_blk rfl rfl (w.heap.size + 1) 49 [.int .i64 ep, .slice a1 n1 c1, .slice a3 n3 c3] _ rfl B4.out.1 Tryd.underlying49 rfl rfl ?_
      exact ⟨a3, n3, c3, rfl, ⟨_, RowV.mono B4.out.2.2 (by omega), LL.out.1, LL.out.2⟩, B4.out.2.1⟩

set_option maxRecDepth 40000 in
set_option maxHeartbeats 2000000 in
theorem holds_at (ep ep' cut : Int) (sn sn' : List Nat) (rs rs' : List (List Nat)) (a1 a2 a3 a4 : Option Addr) (n1 n2 n3 n4 c1 c2 c3 c4 : Nat) (w : World) (h1 : RdB w (.slice a1 n1 c1) sn) (h2 : RdR w (.slice a2 n2 c2) rs) (h3 : RdB w (.slice a3 n3 c3) sn') (h4 : RdR w (.slice a4 n4 c4) rs') (hs : sn'.length ≤ 1000000000000) (hn : rs'.length ≤ 1000000000) (hr : ∀ x ∈ rs', x.length ≤ 1000000000000) :
    Calls Tryd.prog 22 #[.agg #[.int .i64 ep, .slice a1 n1 c1, .slice a2 n2 c2], .agg #[.int .i64 ep', .slice a3 n3 c3, .slice a4 n4 c4, .int .i64 cut]] w fun e w' => e = .returned (.bool (decide (ep' = ep ∧ sn' = sn ∧ rs' = rs))) ∧ Below w.heap.size w w' := by
  have B0 : Below w.heap.size w ((w.alloc (.cells #[.int .i64 ep, .slice a1 n1 c1, .slice a2 n2 c2] 49)).alloc (.cells #[.int .i64 ep', .slice a3 n3 c3, .slice a4 n4 c4, .int .i64 cut] 34)) := below_trans (below_alloc _ _) (below_alloc _ _)
  have SM : Hid (∀ w', Below w.heap.size w w' → Calls Tryd.prog 17 #[.slice a3 n3 c3, .slice a1 n1 c1] w' fun e w'' => e = .returned (.bool (decide (sn' = sn))) ∧ Below w.heap.size w w'' ∧ ∃ n, w'' = w'.drewN n) := fun w' hb => (jsame_at sn' sn _ _ w' (by omega) (Rd.later h3 hb) (Rd.later h1 hb)).mono fun e w'' ⟨x1, n, x2⟩ => ⟨x1, by rw [x2]; exact below_drewN hb n, n, x2⟩
  have SL : Hid (∀ w', Below w.heap.size w w' → Calls Tryd.prog 18 #[.slice a4 n4 c4, .slice a2 n2 c2] w' fun e w'' => e = .returned (.bool (decide (rs' = rs))) ∧ Below w.heap.size w w'') := fun w' hb => (sameList_at rs' rs _ _ w' hn hr (h4.later hb) (h2.later hb)).mono fun e w'' ⟨x1, n, x2⟩ => ⟨x1, by rw [x2]; exact below_drewN hb n⟩
  have X1 : Hid (Blk w.heap.size 49 [.int .i64 ep, .slice a1 n1 c1, .slice a2 n2 c2] ((w.alloc (.cells #[.int .i64 ep, .slice a1 n1 c1, .slice a2 n2 c2] 49)).alloc (.cells #[.int .i64 ep', .slice a3 n3 c3, .slice a4 n4 c4, .int .i64 cut] 34))) := (Blk.new 49 [.int .i64 ep, .slice a1 n1 c1, .slice a2 n2 c2] w).old _
  have X2 : Hid (Blk (w.heap.size + 1) 34 [.int .i64 ep', .slice a3 n3 c3, .slice a4 n4 c4, .int .i64 cut] ((w.alloc (.cells #[.int .i64 ep, .slice a1 n1 c1, .slice a2 n2 c2] 49)).alloc (.cells #[.int .i64 ep', .slice a3 n3 c3, .slice a4 n4 c4, .int .i64 cut] 34))) := Blk.new2 34 [.int .i64 ep', .slice a3 n3 c3, .slice a4 n4 c4, .int .i64 cut] w _
  have BB : Hid (Below w.heap.size w ((w.alloc (.cells #[.int .i64 ep, .slice a1 n1 c1, .slice a2 n2 c2] 49)).alloc (.cells #[.int .i64 ep', .slice a3 n3 c3, .slice a4 n4 c4, .int .i64 cut] 34))) := B0
  clear h1 h2 h3 h4 hs hn hr B0
  by_cases he : ep' = ep
  · have d0 : (ep' == ep) = true := by rw [he]; simp
    have HE : Hid (ep' = ep) := he
    have P1 : Hid (decide (ep' = ep ∧ sn' = sn ∧ rs' = rs) = (decide (sn' = sn) && decide (rs' = rs))) := by
      show _ = _
      rw [← Bool.decide_and]; exact decide_eq_decide.2 ⟨fun h => h.2, fun h => ⟨he, h⟩⟩
    rw [P1.out]
    generalize decide (sn' = sn) = D1 at *
    generalize decide (rs' = rs) = D2' at *
    clear he P1
    go_enter Tryd.func22, Tryd.ntmps22
    go_wp2_with fail
    generalize (w.alloc (.cells #[.int .i64 ep, .slice a1 n1 c1, .slice a2 n2 c2] 49)).alloc (.cells #[.int .i64 ep', .slice a3 n3 c3, .slice a4 n4 c4, .int .i64 cut] 34) = W at *
    refine (SM.out _ BB.out).mono ?_
    rintro e w1 ⟨rfl, b1, n, hw1⟩
    have B1 : Hid (Below w.heap.size w w1) := b1
    have k1 : Blk w.heap.size 49 [.int .i64 ep, .slice a1 n1 c1, .slice a2 n2 c2] w1 := by rw [hw1]; exact X1.out
    have k2 : Blk (w.heap.size + 1) 34 [.int .i64 ep', .slice a3 n3 c3, .slice a4 n4 c4, .int .i64 cut] w1 := by rw [hw1]; exact X2.out
    have y1 := k1.cell 2 _ rfl
    have y2 := k2.cell 2 _ rfl
    clear hw1 b1 k1 k2 X1 X2 BB SM
    cases D1 with
    | false =>
      go_wp2_with fail
      go_ret
      exact ⟨rfl, B1.out⟩
    | true =>
      go_wp2_with fail
      refine (SL.out _ B1.out).mono ?_
      rintro e w2 ⟨rfl, b2⟩
      have B2 : Hid (Below w.heap.size w w2) := b2
      clear b2
      go_wp2_with fail
      go_ret
      exact ⟨rfl, B2.out⟩
  · have d0 : (ep' == ep) = false := beq_eq_false_iff_ne.2 he
    have HE : Hid (decide (ep' = ep ∧ sn' = sn ∧ rs' = rs) = false) := decide_eq_false (fun h => he h.1)
    rw [HE.out]
    clear he
    go_enter Tryd.func22, Tryd.ntmps22
    go_wp2_with fail
    go_ret
    exact ⟨rfl, BB.out⟩
end Go.Proofs.YtcmfehabcklbpaaDoor
