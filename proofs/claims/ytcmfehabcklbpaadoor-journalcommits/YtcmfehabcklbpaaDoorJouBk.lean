/-
  Ours: the statement's book: how it lies.
-/
import Derived.Test.YtcmfehabcklbpaaDoorJouLaw
import Derived.Deep.AppendLies
import Derived.Test.YtcmfehabcklbpaaDoorJouRcv
namespace Go.Proofs.YtcmfehabcklbpaaDoor
open Go.RowKit JM

/-- A disk without a crash, all durable: x in the file f, o in the other. -/
def D2 (f : Nat) (x o : List Nat) (wr : Int) : Dk := if f = 0 then ⟨x, x.length, o, o.length, [], wr, false⟩ else ⟨o, o.length, x, x.length, [], wr, false⟩
theorem D2_dn (f : Nat) (x o : List Nat) (wr : Int) : (D2 f x o wr).dn = false := by unfold D2; split <;> rfl
theorem D2_wr (f : Nat) (x o : List Nat) (wr : Int) : (D2 f x o wr).wr = wr := by unfold D2; split <;> rfl
theorem D2_x {f : Nat} (hf : f = 0 ∨ f = 1) (x o : List Nat) (wr : Int) : (D2 f x o wr).fbN f = x := by rcases hf with rfl | rfl <;> rfl
theorem D2_o {f : Nat} (hf : f = 0 ∨ f = 1) (x o : List Nat) (wr : Int) : (D2 f x o wr).ob f = o := by rcases hf with rfl | rfl <;> rfl
theorem D2_lay {f : Nat} (hf : f = 0 ∨ f = 1) (x o F : List Nat) (wr : Int) (h : x.length + F.length ≤ 16777216) : (D2 f x o wr).lay f F = (D2 f (x ++ F) o (wr + 2), 0) := by
  rcases hf with rfl | rfl
  · have e : (D2 0 x o wr).append 0 F = (⟨x ++ F, x.length, o, o.length, [], wr + 1, false⟩, 0) := by
      show (if (0 : Int) ≠ 0 then _ else if 16777216 < x.length + F.length then _ else _) = _
      rw [if_neg (by omega), if_neg (by omega)]; rfl
    have s : (⟨x ++ F, x.length, o, o.length, [], wr + 1, false⟩ : Dk).sync 0 = (⟨x ++ F, (x ++ F).length, o, o.length, [], wr + 1 + 1, false⟩, 0) := rfl
    show (if ((D2 0 x o wr).append 0 F).2 ≠ 0 then _ else ((D2 0 x o wr).append 0 F).1.sync 0) = _
    rw [e, if_neg (by simp), s, show wr + 1 + 1 = wr + 2 by omega]; rfl
  · have e : (D2 1 x o wr).append 1 F = (⟨o, o.length, x ++ F, x.length, [], wr + 1, false⟩, 0) := by
      show (if (0 : Int) ≠ 0 then _ else if 16777216 < x.length + F.length then _ else _) = _
      rw [if_neg (by omega), if_neg (by omega)]; rfl
    have s : (⟨o, o.length, x ++ F, x.length, [], wr + 1, false⟩ : Dk).sync 1 = (⟨o, o.length, x ++ F, (x ++ F).length, [], wr + 1 + 1, false⟩, 0) := rfl
    show (if ((D2 1 x o wr).append 1 F).2 ≠ 0 then _ else ((D2 1 x o wr).append 1 F).1.sync 1) = _
    rw [e, if_neg (by simp), s, show wr + 1 + 1 = wr + 2 by omega]; rfl
theorem D2_cut {f : Nat} (x o : List Nat) (wr : Int) {n : Nat} (h : x.length = n) : (D2 f x o wr).cut f x.length n = (D2 f x o wr, 0) := by
  unfold Dk.cut; rw [if_pos h]
/-- A write more, where there is something to cut. -/
def more (o : List Nat) : Int := if o.length = 0 then 0 else 1
theorem D2_durable (x o : List Nat) (wr : Int) : (D2 0 x o wr).durable 0 = (x, 0) := by
  show (if (0 : Int) = 0 ∨ (0 : Int) = 1 then (x.take x.length, (0 : Int)) else _) = _
  rw [if_pos (by omega), List.take_length]
theorem D2_cuto {f : Nat} (hf : f = 0 ∨ f = 1) (x o : List Nat) (wr : Int) : (D2 f x o wr).cut (1 - (f : Int)) o.length 0 = (D2 f x [] (wr + more o), 0) := by
  unfold Dk.cut more
  by_cases h : o.length = 0
  · rw [if_pos h, if_pos h]
    obtain rfl : o = [] := List.length_eq_zero_iff.1 h
    rw [Int.add_zero]
  · rw [if_neg h, if_neg h]
    rcases hf with rfl | rfl
    · show (if (0 : Int) ≠ 0 then _ else if ((0 : Nat) : Int) < 0 ∨ (o.length : Int) < ((0 : Nat) : Int) then _ else _) = _
      rw [if_neg (by omega), if_neg (by omega)]; rfl
    · show (if (0 : Int) ≠ 0 then _ else if ((0 : Nat) : Int) < 0 ∨ (o.length : Int) < ((0 : Nat) : Int) then _ else _) = _
      rw [if_neg (by omega), if_neg (by omega)]; rfl
theorem D2_turn {f : Nat} (hf : f = 0 ∨ f = 1) (x o : List Nat) (wr : Int) : D2 f x o wr = D2 (1 - f) o x wr := by rcases hf with rfl | rfl <;> rfl
theorem oneSub {f : Nat} (hf : f = 0 ∨ f = 1) : ((1 - f : Nat) : Int) = 1 - (f : Int) := by rcases hf with rfl | rfl <;> rfl
theorem oneSub01 {f : Nat} (_hf : f = 0 ∨ f = 1) : 1 - f = 0 ∨ 1 - f = 1 := by omega
theorem D2_read {f : Nat} (hf : f = 0 ∨ f = 1) (x o : List Nat) (wr : Int) : (D2 f x o wr).read (1 - (f : Int)) = (o, 0) := by rcases hf with rfl | rfl <;> rfl
theorem D2_renew {f : Nat} (hf : f = 0 ∨ f = 1) (x o F : List Nat) (wr : Int) (h : F.length ≤ 16777216) : (D2 f x o wr).renew (1 - (f : Int)) F = (D2 (1 - f) F x (wr + 2 + more o), 0) := by
  unfold Dk.renew
  rw [D2_read hf, if_neg (by simp)]
  show (if ((D2 f x o wr).cut (1 - (f : Int)) o.length 0).2 ≠ 0 then _ else ((D2 f x o wr).cut (1 - (f : Int)) o.length 0).1.lay (1 - (f : Int)) F) = _
  rw [D2_cuto hf, if_neg (by simp), D2_turn hf, ← oneSub hf]
  show (D2 (1 - f) [] x (wr + more o)).lay ((1 - f : Nat) : Int) F = _
  rw [D2_lay (oneSub01 hf) _ _ _ _ (by simpa using h), List.nil_append, show wr + more o + 2 = wr + 2 + more o by omega]
theorem D2_fmt (F : List Nat) (h : F.length ≤ 16777216) : (Dk.load [] []).fmt F = (D2 0 F [] 2, 0) := by
  have e : Dk.load [] [] = D2 0 [] [] 0 := rfl
  rw [e]
  have c1 : (D2 0 [] [] 0).cut 1 ([] : List Nat).length 0 = (D2 0 [] [] 0, 0) := rfl
  have c0 : (D2 0 [] [] 0).cut 0 ([] : List Nat).length 0 = (D2 0 [] [] 0, 0) := rfl
  have l : (D2 0 [] [] 0).lay 0 F = (D2 0 F [] 2, 0) := D2_lay (f := 0) (.inl rfl) [] [] F 0 (by simpa using h)
  unfold Dk.fmt
  rw [if_neg (by rw [D2_dn]; decide)]
  show (if ((D2 0 [] [] 0).cut 1 ([] : List Nat).length 0).2 ≠ 0 then _ else if (((D2 0 [] [] 0).cut 1 ([] : List Nat).length 0).1.cut 0 ([] : List Nat).length 0).2 ≠ 0 then _ else (((D2 0 [] [] 0).cut 1 ([] : List Nat).length 0).1.cut 0 ([] : List Nat).length 0).1.lay 0 F) = _
  rw [c1, if_neg (by simp)]
  show (if ((D2 0 [] [] 0).cut 0 ([] : List Nat).length 0).2 ≠ 0 then _ else ((D2 0 [] [] 0).cut 0 ([] : List Nat).length 0).1.lay 0 F) = _
  rw [c0, if_neg (by simp)]
  exact l

theorem jf_len1 (ep : Nat) (sn : List Nat) (he : ep ≤ 1000000000) : (jf ep sn []).length ≤ 19 + sn.length := by
  have := put_len10 ep (by omega)
  rw [jf_len, CrcM.enc_len, List.map_nil, join_nil]; simp [hp]; omega
theorem jf_len_push (ep : Nat) (sn : List Nat) (rs : List (List Nat)) (r : List Nat) : (jf ep sn (rs ++ [r])).length = (jf ep sn rs).length + r.length + 9 := by
  rw [jf_push, List.length_append, CrcM.enc_len]; simp [rp]; omega
/-- What is in a journal's files. -/
structure JB (f ep : Nat) (sn : List Nat) (rs : List (List Nat)) (o : List Nat) : Prop where
  f01 : f = 0 ∨ f = 1
  old : Old ep o
  e1 : 1 ≤ ep
  e2 : ep ≤ 1000000000
  sb : ∀ b ∈ sn, b < 256
  sl : sn.length ≤ 4096
  rb : ∀ r ∈ rs, ∀ b ∈ r, b < 256
  rl : ∀ r ∈ rs, r.length ≤ 4096
  ob : ∀ b ∈ o, b < 256
theorem JB.jr {f ep : Nat} {sn : List Nat} {rs : List (List Nat)} {o : List Nat} (h : JB f ep sn rs o) (wr : Int) : Jr (D2 f (jf ep sn rs) o wr) f ep sn rs [] :=
  ⟨h.f01, by rw [D2_x h.f01, List.append_nil], Mute.nil, by rw [D2_o h.f01]; exact h.old, h.e1, by have := h.e2; omega, h.sb, by have := h.sl; omega, h.rb, fun r hr => by have := h.rl r hr; omega, (fun b hb => nomatch hb), by rw [D2_o h.f01]; exact h.ob⟩
theorem JB.push {f ep : Nat} {sn r o : List Nat} {rs : List (List Nat)} (h : JB f ep sn rs o) (hr : ∀ b ∈ r, b < 256) (hl : r.length ≤ 4096) : JB f ep sn (rs ++ [r]) o :=
  ⟨h.f01, h.old, h.e1, h.e2, h.sb, h.sl, fun x hx => (List.mem_append.1 hx).elim (h.rb x) (fun e => by rw [List.mem_singleton.1 e]; exact hr), fun x hx => (List.mem_append.1 hx).elim (h.rl x) (fun e => by rw [List.mem_singleton.1 e]; exact hl), h.ob⟩
theorem JB.next {f ep : Nat} {sn s o : List Nat} {rs : List (List Nat)} (h : JB f ep sn rs o) (hr : ∀ b ∈ s, b < 256) (hl : s.length ≤ 4096) (he : ep < 1000000000) : JB (1 - f) (ep + 1) s [] (jf ep sn rs) :=
  ⟨oneSub01 h.f01, by unfold jf; exact Old.head ep sn _ h.e1 (by omega) h.sb (by have := h.sl; omega), by omega, by omega, hr, hl, (fun r hr => nomatch hr), (fun r hr => nomatch hr), jf_lt ep sn rs h.sb h.rb⟩
theorem JB.clear {f ep : Nat} {sn o : List Nat} {rs : List (List Nat)} (h : JB f ep sn rs o) : JB f ep sn rs [] := ⟨h.f01, Old.nil ep, h.e1, h.e2, h.sb, h.sl, h.rb, h.rl, fun _ hb => nomatch hb⟩
/-- A journal at J that lives on the disk at R, all made since w0. -/
structure JL (w0 : World) (R J : Nat) (S : Nat → Prop) (f ep : Nat) (sn : List Nat) (rs : List (List Nat)) (o : List Nat) (wr : Int) (w : World) : Prop where
  d : DkAt R S (D2 f (jf ep sn rs) o wr) w
  j : Blk J 72 (jnL R (f : Int) (ep : Int) (rs.length : Int) false) w
  n : ¬ S J
  sS : ∀ g, S g → w0.heap.size ≤ g
  sJ : w0.heap.size ≤ J
  b : Below w0.heap.size w0 w
  jb : JB f ep sn rs o
theorem JL.later {w0 : World} {R J : Nat} {S : Nat → Prop} {f ep : Nat} {sn : List Nat} {rs : List (List Nat)} {o : List Nat} {wr : Int} {w w1 : World} (h : JL w0 R J S f ep sn rs o wr w) (hb : Below w.heap.size w w1) : JL w0 R J S f ep sn rs o wr w1 :=
  ⟨h.d.below hb, h.j.below hb, h.n, h.sS, h.sJ, below_trans h.b hb, h.jb⟩
theorem Kp.over {M : Nat → Prop} {w0 w w' : World} (hb : Below w0.heap.size w0 w) (k : Kp M w w') (hM : ∀ g, M g → w0.heap.size ≤ g) : Below w0.heap.size w0 w' :=
  ⟨k.os.trans hb.os, k.tape.trans hb.tape, k.output.trans hb.output, Nat.le_trans hb.size k.size, fun g hg => (k.block g (Nat.lt_of_lt_of_le hg hb.size) (fun h => by have := hM g h; omega)).trans (hb.block g hg)⟩

/-- What else a call on a journal leaves. -/
def JX (J : Nat) (S S' : Nat → Prop) (w w' : World) : Prop := (∀ g, S' g → S g ∨ w.heap.size ≤ g) ∧ Kp (fun g => S g ∨ g = J) w w'
theorem JL.ofx {w0 : World} {R J : Nat} {S : Nat → Prop} {f ep f' ep' : Nat} {sn sn' : List Nat} {rs rs' : List (List Nat)} {o o' : List Nat} {wr wr' : Int} {w w' : World} (h : JL w0 R J S f ep sn rs o wr w) (hb : JB f' ep' sn' rs' o') (p : JnPost R J S w (D2 f' (jf ep' sn' rs') o' wr') (jnL R (f' : Int) (ep' : Int) (rs'.length : Int) false) w') : ∃ S', JL w0 R J S' f' ep' sn' rs' o' wr' w' ∧ JX J S S' w w' := by
  obtain ⟨S', d, g1, b, k⟩ := p
  have lt := h.j.lt
  refine ⟨S', ⟨d, b, fun hs => (g1 J hs).elim h.n (fun h => by omega), fun g hg => (g1 g hg).elim (h.sS g) (fun hh => Nat.le_trans h.b.size hh), h.sJ, Kp.over h.b k (fun g hg => ?_), hb⟩, g1, k⟩
  rcases hg with hg | rfl
  · exact h.sS g hg
  · exact h.sJ
theorem JL.of {w0 : World} {R J : Nat} {S : Nat → Prop} {f ep f' ep' : Nat} {sn sn' : List Nat} {rs rs' : List (List Nat)} {o o' : List Nat} {wr wr' : Int} {w w' : World} (h : JL w0 R J S f ep sn rs o wr w) (hb : JB f' ep' sn' rs' o') (p : JnPost R J S w (D2 f' (jf ep' sn' rs') o' wr') (jnL R (f' : Int) (ep' : Int) (rs'.length : Int) false) w') : ∃ S', JL w0 R J S' f' ep' sn' rs' o' wr' w' := by
  obtain ⟨S', d, g1, b, k⟩ := p
  have lt := h.j.lt
  refine ⟨S', d, b, fun hs => (g1 J hs).elim h.n (fun h => by omega), fun g hg => (g1 g hg).elim (h.sS g) (fun hh => Nat.le_trans h.b.size hh), h.sJ, Kp.over h.b k (fun g hg => ?_), hb⟩
  rcases hg with hg | rfl
  · exact h.sS g hg
  · exact h.sJ
theorem jl_appendx {w0 : World} {R J : Nat} {S : Nat → Prop} {f ep : Nat} {sn : List Nat} {rs : List (List Nat)} {o : List Nat} {wr : Int} {w : World} (h : JL w0 R J S f ep sn rs o wr w) (hw : 0 ≤ wr ∧ wr < 1000000000) (hn : rs.length ≤ 1000000000) (r : List Nat) (ad : Option Addr) (n c : Nat) (hr : ∀ b ∈ r, b < 256) (hl : r.length ≤ 4096) (hx : (jf ep sn rs).length + r.length + 9 ≤ 16777216) (hd : RdB w (.slice ad n c) r) (hT : TabS w) :
    Calls Tryd.prog 13 #[.pointer (some ⟨J, 0, none⟩), .slice ad n c] w fun e w' => e = .returned (.int .i64 0) ∧ ∃ S', JL w0 R J S' f ep sn (rs ++ [r]) o (wr + 2) w' ∧ JX J S S' w w' := by
  have e := D2_lay h.jb.f01 (jf ep sn rs) o (CrcM.enc (rp r)) wr (by rw [CrcM.enc_len]; simp [rp]; omega)
  refine (append_live R J S _ (f : Int) (ep : Int) (rs.length : Int) r ad n c w (by rw [D2_wr]; omega) (by omega) h.d (dkAt_size h.d) h.j h.n hr (by omega) hd hT).mono ?_
  rw [e]
  rintro x w' ⟨rfl, p⟩
  refine ⟨rfl, h.ofx (h.jb.push hr hl) ?_⟩
  rw [if_pos rfl] at p
  rw [jf_push, List.length_append]
  exact p
theorem jl_append {w0 : World} {R J : Nat} {S : Nat → Prop} {f ep : Nat} {sn : List Nat} {rs : List (List Nat)} {o : List Nat} {wr : Int} {w : World} (h : JL w0 R J S f ep sn rs o wr w) (hw : 0 ≤ wr ∧ wr < 1000000000) (hn : rs.length ≤ 1000000000) (r : List Nat) (ad : Option Addr) (n c : Nat) (hr : ∀ b ∈ r, b < 256) (hl : r.length ≤ 4096) (hx : (jf ep sn rs).length + r.length + 9 ≤ 16777216) (hd : RdB w (.slice ad n c) r) (hT : TabS w) :
    Calls Tryd.prog 13 #[.pointer (some ⟨J, 0, none⟩), .slice ad n c] w fun e w' => e = .returned (.int .i64 0) ∧ ∃ S', JL w0 R J S' f ep sn (rs ++ [r]) o (wr + 2) w' :=
  (jl_appendx h hw hn r ad n c hr hl hx hd hT).mono fun _ _ ⟨h1, S', h2, _⟩ => ⟨h1, S', h2⟩
theorem jl_compact {w0 : World} {R J : Nat} {S : Nat → Prop} {f ep : Nat} {sn : List Nat} {rs : List (List Nat)} {o : List Nat} {wr : Int} {w : World} (h : JL w0 R J S f ep sn rs o wr w) (hw : 0 ≤ wr ∧ wr < 1000000000) (r : List Nat) (ad : Option Addr) (n c : Nat) (hr : ∀ b ∈ r, b < 256) (hl : r.length ≤ 4096) (he : ep < 1000000000) (hd : RdB w (.slice ad n c) r) (hT : TabS w) :
    Calls Tryd.prog 14 #[.pointer (some ⟨J, 0, none⟩), .slice ad n c] w fun e w' => e = .returned (.int .i64 0) ∧ ∃ S', JL w0 R J S' (1 - f) (ep + 1) r [] (jf ep sn rs) (wr + 2 + more o) w' := by
  have hpl := put_len10 (ep + 1) (by omega)
  have e := D2_renew h.jb.f01 (jf ep sn rs) o (CrcM.enc (hp (ep + 1) r)) wr (by rw [CrcM.enc_len]; simp [hp]; omega)
  have f01 : (f : Int) = 0 ∨ (f : Int) = 1 := by have := h.jb.f01; omega
  refine (compact_live R J S _ (f : Int) ep (rs.length : Int) r ad n c w (by rw [D2_wr]; omega) f01 (by omega) h.d (dkAt_size h.d) h.j h.n hr (by omega) hd hT).mono ?_
  rw [e]
  rintro x w' ⟨rfl, p⟩
  refine ⟨rfl, h.of (h.jb.next hr hl he) ?_⟩
  rw [if_pos rfl] at p
  have e2 : jf (ep + 1) r [] = CrcM.enc (hp (ep + 1) r) := by unfold jf; rw [List.map_nil, join_nil, List.append_nil]
  rw [e2, oneSub h.jb.f01]
  exact p
theorem jl_open {w0 : World} {R J : Nat} {S : Nat → Prop} {f ep : Nat} {sn : List Nat} {rs : List (List Nat)} {o : List Nat} {wr : Int} {w : World} (h : JL w0 R J S f ep sn rs o wr w) (hw : 0 ≤ wr ∧ wr < 1000000000) (hT : TabS w) :
    Calls Tryd.prog 12 #[.pointer (some ⟨R, 0, none⟩)] w fun e w' => ∃ G sv rv S', e = .returned (.tuple #[.pointer (some ⟨G, 0, none⟩), .agg (rcL (ep : Int) sv rv 0).toArray, .int .i64 0]) ∧ JL w0 R G S' f ep sn rs [] (wr + more o) w' ∧ OwnT w.heap.size w' sv sn ∧ TlsV w.heap.size w' rv rs ∧ Kp S w w' := by
  refine (open_ok R S _ _ _ f ep sn rs [] w (h.jb.jr wr) (by rw [D2_wr]; omega) (D2_dn _ _ _ _) (by rw [D2_x h.jb.f01]; exact D2_cut _ _ _ rfl) (by rw [D2_o h.jb.f01]; exact D2_cuto h.jb.f01 _ _ _) h.d hT).mono ?_
  rintro e w' ⟨G, sv, rv, S', rfl, h1, h2, h3, h4, h5, h6, h7, h8⟩
  exact ⟨G, sv, rv, S', rfl, ⟨h2, h1, h4, fun g hg => (h3 g hg).elim (h.sS g) (fun hh => Nat.le_trans h.b.size hh), Nat.le_trans h.b.size h6, Kp.over h.b h5 h.sS, h.jb.clear⟩, h7, h8, h5⟩
/-- A new disk, formatted, and opened. -/
theorem jl_format {w0 : World} {R : Nat} {S : Nat → Prop} {w : World} (sn : List Nat) (ad : Option Addr) (n c : Nat) (h : DkAt R S (Dk.load [] []) w) (hS : ∀ g, S g → w0.heap.size ≤ g) (hb : Below w0.heap.size w0 w) (hr : ∀ b ∈ sn, b < 256) (hl : sn.length ≤ 4096) (hd : RdB w (.slice ad n c) sn) (hT : TabS w) :
    Calls Tryd.prog 9 #[.pointer (some ⟨R, 0, none⟩), .slice ad n c] w fun e w' => e = .returned (.int .i64 0) ∧ ∃ S', DkAt R S' (D2 0 (jf 1 sn []) [] 2) w' ∧ (∀ g, S' g → w0.heap.size ≤ g) ∧ Below w0.heap.size w0 w' := by
  have hpl := put_len10 1 (by omega)
  have e := D2_fmt (CrcM.enc (hp 1 sn)) (by rw [CrcM.enc_len]; simp [hp]; omega)
  have e2 : jf 1 sn [] = CrcM.enc (hp 1 sn) := by unfold jf; rw [List.map_nil, join_nil, List.append_nil]
  refine (formatD_up R S _ sn ad n c w ⟨by show (0 : Int) ≤ 0; omega, by show (0 : Int) < _; omega⟩ rfl h (dkAt_size h) hr (by omega) hd hT).mono ?_
  rw [e]
  rintro x w' ⟨rfl, S', d, g1, k⟩
  refine ⟨rfl, S', by rw [e2]; exact d, fun g hg => (g1 g hg).elim (hS g) (fun hh => Nat.le_trans hb.size hh), Kp.over hb k hS⟩
theorem jl_first {w0 : World} {R : Nat} {S : Nat → Prop} {w : World} (sn : List Nat) (h : DkAt R S (D2 0 (jf 1 sn []) [] 2) w) (hS : ∀ g, S g → w0.heap.size ≤ g) (hb : Below w0.heap.size w0 w) (hr : ∀ b ∈ sn, b < 256) (hl : sn.length ≤ 4096) (hT : TabS w) :
    Calls Tryd.prog 12 #[.pointer (some ⟨R, 0, none⟩)] w fun e w' => ∃ G sv rv S', e = .returned (.tuple #[.pointer (some ⟨G, 0, none⟩), .agg (rcL 1 sv rv 0).toArray, .int .i64 0]) ∧ JL w0 R G S' 0 1 sn [] [] 2 w' ∧ OwnT w.heap.size w' sv sn ∧ TlsV w.heap.size w' rv [] ∧ Kp S w w' := by
  have jb : JB 0 1 sn [] [] := ⟨.inl rfl, Old.nil 1, by omega, by omega, hr, hl, (fun r hr => nomatch hr), (fun r hr => nomatch hr), fun _ hb => nomatch hb⟩
  refine (open_ok R S _ _ _ 0 1 sn [] [] w (jb.jr 2) (by rw [D2_wr]; omega) (D2_dn _ _ _ _) (by rw [D2_x jb.f01]; exact D2_cut _ _ _ rfl) (by rw [D2_o jb.f01]; exact D2_cuto jb.f01 _ _ _) h hT).mono ?_
  rintro e w' ⟨G, sv, rv, S', rfl, h1, h2, h3, h4, h5, h6, h7, h8⟩
  exact ⟨G, sv, rv, S', rfl, ⟨h2, h1, h4, fun g hg => (h3 g hg).elim (hS g) (fun hh => Nat.le_trans hb.size hh), Nat.le_trans hb.size h6, Kp.over hb h5 hS, jb⟩, h7, h8, h5⟩
end Go.Proofs.YtcmfehabcklbpaaDoor

namespace Go.Proofs.YtcmfehabcklbpaaDoor
open Go.RowKit JM

/-- What came in ahead of w0. -/
def Inp (w0 : World) (v : Value) (bs : List Nat) : Prop := (∃ a c, v = .slice a bs.length c) ∧ ∀ w', Below w0.heap.size w0 w' → RdB w' v bs
/-- A list of one's own of what came in. -/
structure LstV (w0 : World) (base : Nat) (w : World) (v : Value) (ps : List (List Nat)) : Prop where
  row : ∃ vs : List Value, RowV 22 base w v vs ∧ vs.length = ps.length ∧ ∀ y ∈ vs.zip ps, Inp w0 y.1 y.2
theorem LstV.nil (w0 : World) (base : Nat) (w : World) : LstV w0 base w (.slice none 0 0) [] := ⟨[], RowV.nil _ _ _, rfl, fun _ hx => nomatch hx⟩
theorem LstV.later {w0 : World} {base : Nat} {w w' : World} {v : Value} {ps : List (List Nat)} (h : LstV w0 base w v ps) (hb : Below w.heap.size w w') : LstV w0 base w' v ps := by
  obtain ⟨vs, h1, h2, h3⟩ := h.row
  exact ⟨vs, RowV.later h1 hb, h2, h3⟩
theorem LstV.mono {w0 : World} {base base' : Nat} {w : World} {v : Value} {ps : List (List Nat)} (h : LstV w0 base w v ps) (hb : base' ≤ base) : LstV w0 base' w v ps := by
  obtain ⟨vs, h1, h2, h3⟩ := h.row
  exact ⟨vs, RowV.mono h1 hb, h2, h3⟩
theorem LstV.len {w0 : World} {base : Nat} {w : World} {v : Value} {ps : List (List Nat)} (h : LstV w0 base w v ps) : ∃ a c, v = .slice a ps.length c ∧ ps.length ≤ c := by
  obtain ⟨vs, h1, h2, -⟩ := h.row
  obtain ⟨a, c, e, hc, -⟩ := (RowV.rd h1).len
  exact ⟨a, c, by rw [← h2]; exact e, by rw [← h2]; exact hc⟩
theorem rd_zip {w : World} {v : Value} {vs : List Value} {ps : List (List Nat)} (hr : Rd w v vs) (hl : vs.length = ps.length) (hz : ∀ y ∈ vs.zip ps, (∃ a c, y.1 = .slice a y.2.length c) ∧ RdB w y.1 y.2) : RdR w v ps := by
  obtain ⟨ao, cap, rfl, hc, _, H⟩ := hr
  refine ⟨ao, cap, by rw [hl], by omega, fun i hi => ?_⟩
  obtain ⟨g, o, e1, lt, e2⟩ := H i (by omega)
  have hm : (vs[i], ps[i]) ∈ vs.zip ps := by
    have : (vs.zip ps)[i]? = some (vs[i], ps[i]) := by rw [List.getElem?_zip_eq_some]; exact ⟨List.getElem?_eq_getElem _, List.getElem?_eq_getElem _⟩
    exact List.mem_of_getElem? this
  obtain ⟨⟨a', c', e3⟩, hb⟩ := hz _ hm
  have hg : ps.getD i [] = ps[i] := by rw [List.getD_eq_getElem?_getD, List.getElem?_eq_getElem hi]; rfl
  refine ⟨g, o, a', c', e1, lt, ?_, ?_⟩
  · rw [e2, hg]; exact congrArg some e3
  · rw [hg, ← e3]; exact hb
theorem LstV.rd {w0 : World} {base : Nat} {w : World} {v : Value} {ps : List (List Nat)} (h : LstV w0 base w v ps) (hb : Below w0.heap.size w0 w) : RdR w v ps := by
  obtain ⟨vs, h1, h2, h3⟩ := h.row
  exact rd_zip (RowV.rd h1) h2 (fun y hy => ⟨(h3 y hy).1, (h3 y hy).2 w hb⟩)
theorem TlsV.rd {base : Nat} {w : World} {v : Value} {ps : List (List Nat)} (h : TlsV base w v ps) : RdR w v ps := by
  obtain ⟨vs, h1, h2, h3, -⟩ := h.row
  refine rd_zip (RowV.rd h1) h2 (fun y hy => ⟨?_, (h3 y hy).rd⟩)
  obtain ⟨g, o, c, e, -⟩ := (h3 y hy).len
  exact ⟨_, c, e⟩
theorem LstV.kp {w0 : World} {base : Nat} {w w' : World} {v : Value} {ps : List (List Nat)} {M : Nat → Prop} (h : LstV w0 base w v ps) (k : Kp M w w') (hm : ∀ g, base ≤ g → g < w.heap.size → ¬ M g) : LstV w0 base w' v ps := by
  obtain ⟨vs, h1, h2, h3⟩ := h.row
  exact ⟨vs, RowV.kp h1 k (fun g hg => hm g (RowV.block_ge h1 hg) (RowV.block_lt h1 hg)), h2, h3⟩
theorem LstV.kp3 {w0 : World} {base base' : Nat} {w1 w w' : World} {v : Value} {ps : List (List Nat)} {M : Nat → Prop} (h : LstV w0 base w v ps) (k : Kp M w w') (h1 : LstV w0 base' w1 v ps) (hm : ∀ g, M g → w1.heap.size ≤ g) : LstV w0 base w' v ps := by
  obtain ⟨vs, r, h2, h3⟩ := h.row
  obtain ⟨us, r1, -, -⟩ := h1.row
  exact ⟨vs, RowV.kp r k (fun g hg e => by have := hm g e; have := RowV.block_lt r1 hg; omega), h2, h3⟩
/-- A state's cells. -/
def stL (ep : Int) (sv rv : Value) : List Value := [.int .i64 ep, sv, rv]
def stZ : List Value := [.int .i64 0, .slice none 0 0, .slice none 0 0]
theorem stL_one (ep : Int) (a b : Option Addr) (l m c d : Nat) : ∀ v ∈ stL ep (.slice a l c) (.slice b m d), v.oneCell' = true := by
  intro v hv
  simp [stL] at hv
  rcases hv with rfl | rfl | rfl <;> rfl

set_option maxRecDepth 40000 in
set_option maxHeartbeats 2000000 in
theorem with_at (w0 : World) (ep : Int) (a1 : Option Addr) (n1 c1 : Nat) (rv x : Value) (rs : List (List Nat)) (r : List Nat) (base : Nat) (w : World) (h : LstV w0 base w rv rs) (hx : Inp w0 x r) (hn : rs.length ≤ 1000000) :
    Calls Tryd.prog 20 #[.agg #[.int .i64 ep, .slice a1 n1 c1, rv], x] w fun e w' => ∃ a3 n3 c3, e = .returned (.agg #[.int .i64 ep, .slice a1 n1 c1, .slice a3 n3 c3]) ∧ LstV w0 w.heap.size w' (.slice a3 n3 c3) (rs ++ [r]) ∧ Below w.heap.size w w' := by
  obtain ⟨i0, hi, hz0, hz1, hz2⟩ := info_parts infoTl
  obtain ⟨vs, r1, l1, I1⟩ := h.row
  obtain ⟨ao, cap, e, hc, hno, H⟩ := RowV.rd r1
  subst e
  obtain ⟨⟨ax, cx, rfl⟩, hx2⟩ := hx
  have HX : Hid (Inp w0 (.slice ax r.length cx) r) := ⟨⟨ax, cx, rfl⟩, hx2⟩
  have HH : Hid (∀ i, i < vs.length → ∃ g o a' m' c', ao = some ⟨g, o, none⟩ ∧ (∀ w', Below w.heap.size w w' → w'.cell? ⟨g, o + i, none⟩ = some (.slice a' m' c')) ∧ vs.take (i + 1) = vs.take i ++ [.slice a' m' c']) := fun i hi => by
    obtain ⟨g, o, e1, lt, e2⟩ := H i hi
    have hm : (vs[i], rs[i]'(by omega)) ∈ vs.zip rs := by
      have : (vs.zip rs)[i]? = some (vs[i], rs[i]'(by omega)) := by rw [List.getElem?_zip_eq_some]; exact ⟨List.getElem?_eq_getElem _, List.getElem?_eq_getElem _⟩
      exact List.mem_of_getElem? this
    obtain ⟨a', c', e3⟩ := (I1 _ hm).1
    have e3' : vs[i] = .slice a' (rs[i]'(by omega)).length c' := e3
    refine ⟨g, o, a', (rs[i]'(by omega)).length, c', e1, fun w' hb => ?_, ?_⟩
    · rw [hb.cell (p := ⟨g, o + i, none⟩) lt, e2, e3']
    · rw [List.take_add_one, List.getElem?_eq_getElem hi, e3']; rfl
  have LL : Hid ((vs ++ [Value.slice ax r.length cx]).length = (rs ++ [r]).length ∧ ∀ y ∈ (vs ++ [Value.slice ax r.length cx]).zip (rs ++ [r]), Inp w0 y.1 y.2) := by
    refine ⟨by simp [l1], fun y hy => ?_⟩
    rw [List.zip_append l1] at hy
    rcases List.mem_append.1 hy with h | h
    · exact I1 y h
    · simp at h; subst h; exact HX.out
  have HF : Hid (vs.take vs.length = vs) := List.take_length
  have hL : vs.length ≤ 1000000 := by omega
  clear r1 l1 I1 H hx2 h hn hno
  generalize vs.length = L at *
  have BX : Hid (Blk w.heap.size 49 [.int .i64 ep, .slice a1 n1 c1, .slice ao L cap] ((w.alloc (.cells #[.int .i64 ep, .slice a1 n1 c1, .slice ao L cap] 49)).alloc (.cells #[.int .i64 0, .slice none 0 0, .slice none 0 0] 49)) ∧ Blk (w.heap.size + 1) 49 stZ ((w.alloc (.cells #[.int .i64 ep, .slice a1 n1 c1, .slice ao L cap] 49)).alloc (.cells #[.int .i64 0, .slice none 0 0, .slice none 0 0] 49)) ∧ Below w.heap.size w ((w.alloc (.cells #[.int .i64 ep, .slice a1 n1 c1, .slice ao L cap] 49)).alloc (.cells #[.int .i64 0, .slice none 0 0, .slice none 0 0] 49)) ∧ w.heap.size + 2 ≤ ((w.alloc (.cells #[.int .i64 ep, .slice a1 n1 c1, .slice ao L cap] 49)).alloc (.cells #[.int .i64 0, .slice none 0 0, .slice none 0 0] 49)).heap.size) :=
    ⟨(Blk.new 49 [.int .i64 ep, .slice a1 n1 c1, .slice ao L cap] w).old _, Blk.new2 49 stZ w _, below_trans (below_alloc _ _) (below_alloc _ _), by simp⟩
  go_enter Tryd.func20, Tryd.ntmps20
  go_wp2_with fail
  generalize (w.alloc (.cells #[.int .i64 ep, .slice a1 n1 c1, .slice ao L cap] 49)).alloc (.cells #[.int .i64 0, .slice none 0 0, .slice none 0 0] 49) = W at *
  go_loopw [5, 6] (fun vl vi wr => ∃ k : Nat, vi = .int .i64 (k : Int) ∧ k ≤ L ∧ Hid (RowV 22 (w.heap.size + 2) wr vl (vs.take k)) ∧ Hid (Below w.heap.size w wr ∧ w.heap.size + 2 ≤ wr.heap.size) ∧ Hid (Blk w.heap.size 49 [.int .i64 ep, .slice a1 n1 c1, .slice ao L cap] wr) ∧ Hid (Blk (w.heap.size + 1) 49 stZ wr)) (fun _ vi _ => L - (intOf vi).toNat)
  case atStart => exact ⟨0, rfl, by omega, RowV.nil _ _ _, ⟨BX.out.2.2.1, BX.out.2.2.2⟩, BX.out.1, BX.out.2.1⟩
  case round =>
    clear BX
    obtain ⟨k, rfl, hk, Q1, H3, K1, K2⟩ := hrel
    have c2 := K1.out.cell 2 _ rfl
    have own1 := Q1.out
    have hs1 : w.heap.size + 2 ≤ wr.heap.size := H3.out.2
    have KK : Hid (∀ w2 v', RowV 22 (w.heap.size + 2) w2 v' (vs.take k) → ∀ w3, w2.grownBy w3 v'.ownBlock → Blk w.heap.size 49 [.int .i64 ep, .slice a1 n1 c1, .slice ao L cap] w2 → Blk (w.heap.size + 1) 49 stZ w2 → Blk w.heap.size 49 [.int .i64 ep, .slice a1 n1 c1, .slice ao L cap] w3 ∧ Blk (w.heap.size + 1) 49 stZ w3) := fun w2 v' hr w3 hg b1 b2 => by
      have kp := Kp.of_grown hg
      exact ⟨b1.kp kp (fun e => by have := RowV.block_ge hr e; omega), b2.kp kp (fun e => by have := RowV.block_ge hr e; omega)⟩
    by_cases hlt : (k : Int) < (L : Int)
    · obtain ⟨g, o, a', m', c', rfl, hc', ht⟩ := HH.out k (by omega)
      have e1 := hc' wr H3.out.1
      have l1 : (vs.take k).length + 1 ≤ maxLen := by rw [List.length_take]; unfold maxLen; omega
      have l2 : ((vs.take k).length + 1) * 24 ≤ 140737488355328 := by rw [List.length_take]; omega
      have HT : Hid (vs.take (k + 1) = vs.take k ++ [.slice a' m' c']) := ht
      clear hc' ht HH
      go_wp2_with (at_builtin; refine wpList_pushV rfl (.tmp 14) (.tmp 20) 32 rfl 22 i0 (.slice none 0 0) 24 underTl hi hz0 hz1 hz2 rfl (w.heap.size + 2) _ _ _ rfl rfl own1 hs1 rfl l1 l2 ?_; intro v' w2 hown' hgr)
      have T2 : Hid (RowV 22 (w.heap.size + 2) w2 v' (vs.take (k + 1))) := by show RowV _ _ _ _ _; rw [HT.out]; exact hown'
      have B2 : Hid (Below w.heap.size w w2 ∧ w.heap.size + 2 ≤ w2.heap.size) := ⟨below_grown H3.out.1 own1 (by omega) H3.out.1.size hgr, Nat.le_trans hs1 hgr.size⟩
      have K3 := KK.out _ _ own1 _ hgr K1.out K2.out
      go_roundw
      case rel => exact ⟨k + 1, by go_num, by omega, T2, B2, K3.1, K3.2⟩
      case measure => simp [intOf]; omega
    · obtain rfl : k = L := by omega
      have l1 : (vs.take k).length + 1 ≤ maxLen := by rw [List.length_take]; unfold maxLen; omega
      have l2 : ((vs.take k).length + 1) * 24 ≤ 140737488355328 := by rw [List.length_take]; omega
      clear HH
      go_upto_region 7 with (at_builtin; refine wpList_pushV rfl (.tmp 22) (.tmp 24) 32 rfl 22 i0 (.slice none 0 0) 24 underTl hi hz0 hz1 hz2 rfl (w.heap.size + 2) _ _ _ rfl rfl own1 hs1 rfl l1 l2 ?_; intro v' w2 hown' hgr)
      have T2 : Hid (RowV 22 (w.heap.size + 2) w2 v' (vs ++ [.slice ax r.length cx])) := by show RowV _ _ _ _ _; rw [HF.out] at hown'; exact hown'
      have B2 : Hid (Below w.heap.size w w2) := below_grown H3.out.1 own1 (by omega) H3.out.1.size hgr
      have K3 := KK.out _ _ own1 _ hgr K1.out K2.out
      obtain ⟨a3, c3, e3, -⟩ := (RowV.rd T2.out).len
      subst e3
      have d0 := K3.1.cell 0 _ rfl
      have d1 := K3.1.cell 1 _ rfl
      have K4 : Hid (Blk (w.heap.size + 1) 49 stZ w2) := K3.2
      clear K3 hown' hgr own1 KK K1 K2 c2 Q1 H3
      obtain ⟨n3, hn3⟩ : ∃ n3, (vs ++ [Value.slice ax r.length cx]).length = n3 := ⟨_, rfl⟩
      rw [hn3] at T2 ⊢
      clear hn3
      go_wp2_with ((with_reducible refine at_store ?_); refine step_store rfl 49 _ _ rfl (w.heap.size + 1) 0 49 stZ [.int .i64 ep, .slice a1 n1 c1, .slice a3 n3 c3] rfl rfl K4.out (Nat.le_refl _) rfl (stL_one _ _ _ _ _ _ _) ?_; intro w4 nb g4; have B4 : Hid (Blk (w.heap.size + 1) 49 [.int .i64 ep, .slice a1 n1 c1, .slice a3 n3 c3] w4 ∧ Below w.heap.size w w4 ∧ RowV 22 (w.heap.size + 2) w4 (.slice a3 n3 c3) (vs ++ [.slice ax r.length cx])) := ⟨blk_put (Nat.le_refl _) nb, below_row B2.out g4 (by omega), RowV.kept T2.out g4 (fun g' hg' e' => by injection e' with e'; have := RowV.block_ge T2.out hg'; omega)⟩; clear nb g4)
      refine ret_blk rfl rfl (w.heap.size + 1) 49 [.int .i64 ep, .slice a1 n1 c1, .slice a3 n3 c3] _ rfl B4.out.1 Tryd.underlying49 rfl rfl ?_
      exact ⟨a3, n3, c3, rfl, ⟨_, RowV.mono B4.out.2.2 (by omega), LL.out.1, LL.out.2⟩, B4.out.2.1⟩

set_option maxRecDepth 40000 in
set_option maxHeartbeats 2000000 in
theorem holds_at (ep ep' cut : Int) (sn sn' : List Nat) (rs rs' : List (List Nat)) (a1 a2 a3 a4 : Option Addr) (n1 n2 n3 n4 c1 c2 c3 c4 : Nat) (w : World) (h1 : RdB w (.slice a1 n1 c1) sn) (h2 : RdR w (.slice a2 n2 c2) rs) (h3 : RdB w (.slice a3 n3 c3) sn') (h4 : RdR w (.slice a4 n4 c4) rs') (hs : sn'.length ≤ 1000000000000) (hn : rs'.length ≤ 1000000000) (hr : ∀ x ∈ rs', x.length ≤ 1000000000000) :
    Calls Tryd.prog 22 #[.agg #[.int .i64 ep, .slice a1 n1 c1, .slice a2 n2 c2], .agg #[.int .i64 ep', .slice a3 n3 c3, .slice a4 n4 c4, .int .i64 cut]] w fun e w' => e = .returned (.bool (decide (ep' = ep ∧ sn' = sn ∧ rs' = rs))) ∧ Below w.heap.size w w' := by
  have B0 : Below w.heap.size w ((w.alloc (.cells #[.int .i64 ep, .slice a1 n1 c1, .slice a2 n2 c2] 49)).alloc (.cells #[.int .i64 ep', .slice a3 n3 c3, .slice a4 n4 c4, .int .i64 cut] 34)) := below_trans (below_alloc _ _) (below_alloc _ _)
  have SM : Hid (∀ w', Below w.heap.size w w' → Calls Tryd.prog 17 #[.slice a3 n3 c3, .slice a1 n1 c1] w' fun e w'' => e = .returned (.bool (decide (sn' = sn))) ∧ Below w.heap.size w w'' ∧ ∃ n, w'' = w'.drewN n) := fun w' hb => (jsame_at sn' sn _ _ w' (by omega) (Rd.later h3 hb) (Rd.later h1 hb)).mono fun e w'' ⟨x1, n, x2⟩ => ⟨x1, by rw [x2]; exact below_drewN hb n, n, x2⟩
  have SL : Hid (∀ w', Below w.heap.size w w' → Calls Tryd.prog 18 #[.slice a4 n4 c4, .slice a2 n2 c2] w' fun e w'' => e = .returned (.bool (decide (rs' = rs))) ∧ Below w.heap.size w w'') := fun w' hb => (sameList_at rs' rs _ _ w' hn hr (h4.later hb) (h2.later hb)).mono fun e w'' ⟨x1, n, x2⟩ => ⟨x1, by rw [x2]; exact below_drewN hb n⟩
  have X1 : Hid (Blk w.heap.size 49 [.int .i64 ep, .slice a1 n1 c1, .slice a2 n2 c2] ((w.alloc (.cells #[.int .i64 ep, .slice a1 n1 c1, .slice a2 n2 c2] 49)).alloc (.cells #[.int .i64 ep', .slice a3 n3 c3, .slice a4 n4 c4, .int .i64 cut] 34))) := (Blk.new 49 [.int .i64 ep, .slice a1 n1 c1, .slice a2 n2 c2] w).old _
  have X2 : Hid (Blk (w.heap.size + 1) 34 [.int .i64 ep', .slice a3 n3 c3, .slice a4 n4 c4, .int .i64 cut] ((w.alloc (.cells #[.int .i64 ep, .slice a1 n1 c1, .slice a2 n2 c2] 49)).alloc (.cells #[.int .i64 ep', .slice a3 n3 c3, .slice a4 n4 c4, .int .i64 cut] 34))) := Blk.new2 34 [.int .i64 ep', .slice a3 n3 c3, .slice a4 n4 c4, .int .i64 cut] w _
  have BB : Hid (Below w.heap.size w ((w.alloc (.cells #[.int .i64 ep, .slice a1 n1 c1, .slice a2 n2 c2] 49)).alloc (.cells #[.int .i64 ep', .slice a3 n3 c3, .slice a4 n4 c4, .int .i64 cut] 34))) := B0
  clear h1 h2 h3 h4 hs hn hr B0
  by_cases he : ep' = ep
  · have d0 : (ep' == ep) = true := by rw [he]; simp
    have HE : Hid (ep' = ep) := he
    have P1 : Hid (decide (ep' = ep ∧ sn' = sn ∧ rs' = rs) = (decide (sn' = sn) && decide (rs' = rs))) := by
      show _ = _
      rw [← Bool.decide_and]; exact decide_eq_decide.2 ⟨fun h => h.2, fun h => ⟨he, h⟩⟩
    rw [P1.out]
    generalize decide (sn' = sn) = D1 at *
    generalize decide (rs' = rs) = D2' at *
    clear he P1
    go_enter Tryd.func22, Tryd.ntmps22
    go_wp2_with fail
    generalize (w.alloc (.cells #[.int .i64 ep, .slice a1 n1 c1, .slice a2 n2 c2] 49)).alloc (.cells #[.int .i64 ep', .slice a3 n3 c3, .slice a4 n4 c4, .int .i64 cut] 34) = W at *
    refine (SM.out _ BB.out).mono ?_
    rintro e w1 ⟨rfl, b1, n, hw1⟩
    have B1 : Hid (Below w.heap.size w w1) := b1
    have k1 : Blk w.heap.size 49 [.int .i64 ep, .slice a1 n1 c1, .slice a2 n2 c2] w1 := by rw [hw1]; exact X1.out
    have k2 : Blk (w.heap.size + 1) 34 [.int .i64 ep', .slice a3 n3 c3, .slice a4 n4 c4, .int .i64 cut] w1 := by rw [hw1]; exact X2.out
    have y1 := k1.cell 2 _ rfl
    have y2 := k2.cell 2 _ rfl
    clear hw1 b1 k1 k2 X1 X2 BB SM
    cases D1 with
    | false =>
      go_wp2_with fail
      go_ret
      exact ⟨rfl, B1.out⟩
    | true =>
      go_wp2_with fail
      refine (SL.out _ B1.out).mono ?_
      rintro e w2 ⟨rfl, b2⟩
      have B2 : Hid (Below w.heap.size w w2) := b2
      clear b2
      go_wp2_with fail
      go_ret
      exact ⟨rfl, B2.out⟩
  · have d0 : (ep' == ep) = false := beq_eq_false_iff_ne.2 he
    have HE : Hid (decide (ep' = ep ∧ sn' = sn ∧ rs' = rs) = false) := decide_eq_false (fun h => he h.1)
    rw [HE.out]
    clear he
    go_enter Tryd.func22, Tryd.ntmps22
    go_wp2_with fail
    go_ret
    exact ⟨rfl, BB.out⟩
end Go.Proofs.YtcmfehabcklbpaaDoor

namespace Go.Proofs.YtcmfehabcklbpaaDoor
open Go.RowKit JM

namespace JM
theorem jf_app (ep : Nat) (sn : List Nat) (xs ys : List (List Nat)) : jf ep sn (xs ++ ys) = jf ep sn xs ++ CrcM.join (ys.map rp) := by
  unfold jf; rw [List.map_append, join_app, List.append_assoc]
theorem jf_cut (ep : Nat) (sn : List Nat) (rs : List (List Nat)) (m cut : Nat) (hm : m ≤ rs.length) (h1 : (jf ep sn (rs.take m)).length ≤ cut) (h2 : m < rs.length → cut < (jf ep sn (rs.take (m + 1))).length) (h3 : cut ≤ (jf ep sn rs).length) (hl : ∀ r ∈ rs, r.length < 4194304) :
    ∃ tail, (jf ep sn rs).take cut = jf ep sn (rs.take m) ++ tail ∧ Mute tail ∧ tail.length = cut - (jf ep sn (rs.take m)).length := by
  by_cases hmm : m = rs.length
  · subst hmm
    rw [List.take_length] at h1 ⊢
    exact ⟨[], by rw [List.append_nil, List.take_of_length_le h1], Mute.nil, by simp; omega⟩
  · have hlt : m < rs.length := by omega
    have hr : (rs[m]).length < 4194304 := hl _ (List.getElem_mem _)
    have e0 : rs.take (m + 1) = rs.take m ++ [rs[m]] := by rw [List.take_add_one, List.getElem?_eq_getElem hlt]; rfl
    have e1 : rs = rs.take m ++ (rs[m] :: rs.drop (m + 1)) := by rw [List.getElem_cons_drop, List.take_append_drop]
    have e2 : jf ep sn rs = jf ep sn (rs.take m) ++ (CrcM.enc (rp rs[m]) ++ CrcM.join ((rs.drop (m + 1)).map rp)) := by
      conv => lhs; rw [e1]
      rw [jf_app, List.map_cons, join_cons]
    have h2' := h2 hlt
    rw [e0, jf_push, List.length_append, CrcM.enc_len] at h2'
    have hp : (rp rs[m]).length ≤ 4194304 := by simp [rp]; omega
    refine ⟨(CrcM.enc (rp rs[m])).take (cut - (jf ep sn (rs.take m)).length), ?_, mute_part _ _ hp (by omega), ?_⟩
    · rw [e2, List.take_append, List.take_of_length_le h1, List.take_append_of_le_length (by rw [CrcM.enc_len]; omega)]
    · rw [List.length_take, CrcM.enc_len]; omega
theorem jf_mono (ep : Nat) (sn : List Nat) (rs : List (List Nat)) (m : Nat) : (jf ep sn (rs.take m)).length ≤ (jf ep sn rs).length := by
  conv => rhs; rw [← List.take_append_drop m rs, jf_app, List.length_append]
  omega
theorem jf_head (ep : Nat) (sn : List Nat) (rs : List (List Nat)) (cut : Nat) (h : cut < (jf ep sn []).length) : (jf ep sn rs).take cut = (CrcM.enc (hp ep sn)).take cut ∧ cut < (hp ep sn).length + 8 := by
  have e : (jf ep sn []).length = (hp ep sn).length + 8 := by rw [jf_len, CrcM.enc_len, List.map_nil, join_nil]; simp
  refine ⟨?_, by omega⟩
  unfold jf
  rw [List.take_append_of_le_length (by rw [CrcM.enc_len]; omega)]
end JM

theorem D2_trunc {f : Nat} (hf : f = 0 ∨ f = 1) (x o : List Nat) (wr : Int) {n : Nat} (h : n ≤ x.length) : (D2 f x o wr).cut (f : Int) x.length n = (D2 f (x.take n) o (wr + if x.length = n then 0 else 1), 0) := by
  unfold Dk.cut
  by_cases hn : x.length = n
  · rw [if_pos hn, if_pos hn, Int.add_zero, List.take_of_length_le (by omega)]
  · rw [if_neg hn, if_neg hn]
    have hl : (x.take n).length = n := by rw [List.length_take]; omega
    rcases hf with rfl | rfl
    · show (if (0 : Int) ≠ 0 then _ else if (n : Int) < 0 ∨ (x.length : Int) < (n : Int) then _ else _) = _
      rw [if_neg (by omega), if_neg (by omega)]
      show ((⟨x.take (n : Int).toNat, (n : Int).toNat, o, o.length, [], wr + 1, false⟩ : Dk), (0 : Int)) = ((⟨x.take n, (x.take n).length, o, o.length, [], wr + 1, false⟩ : Dk), 0)
      rw [hl, Int.toNat_natCast]
    · show (if (0 : Int) ≠ 0 then _ else if (n : Int) < 0 ∨ (x.length : Int) < (n : Int) then _ else _) = _
      rw [if_neg (by omega), if_neg (by omega)]
      show ((⟨o, o.length, x.take (n : Int).toNat, (n : Int).toNat, [], wr + 1, false⟩ : Dk), (0 : Int)) = ((⟨o, o.length, x.take n, (x.take n).length, [], wr + 1, false⟩ : Dk), 0)
      rw [hl, Int.toNat_natCast]
theorem load_D2 (x : List Nat) (h : x.length ≤ 16777216) : Dk.load x [] = D2 0 x [] 0 := by
  unfold Dk.load loadL; rw [List.take_of_length_le h]; rfl

/-- Open where nothing is found. -/
theorem open_blank (R : Nat) (S : Nat → Prop) (t : Dk) (w : World) (hdn : t.dn = false) (hn : newest t.b0 t.b1 = none) (h : DkAt R S t w) (hb0 : ∀ b ∈ t.b0, b < 256) (hb1 : ∀ b ∈ t.b1, b < 256) (hT : TabS w) :
    Calls Tryd.prog 12 #[.pointer (some ⟨R, 0, none⟩)] w fun e w' => e = .returned (.tuple #[.pointer none, .agg rcZ.toArray, .int .i64 70]) ∧ Below w.heap.size w w' := by
  have b0 : Below w.heap.size w (w.alloc (.cells rcZ.toArray 34)) := below_alloc _ _
  have nz := Blk.new 34 rcZ w
  have l0 := h.1.l0
  have l1 := h.1.l1
  refine (open_gen R (fun p l k w1 => p = .pointer none ∧ l = rcZ ∧ k = 70 ∧ Below w.heap.size w w1) w ((recovered_blank R S t _ hdn hn (h.below b0) hb0 hb1 (by omega) (by omega) (hT.below b0)).mono ?_)).mono ?_
  · rintro e w1 ⟨rfl, b1⟩
    exact ⟨_, rcZ, 70, rfl, rfl, rcZ_one, nz.below b1, rfl, rfl, rfl, below_trans b0 b1⟩
  · rintro e w' ⟨p, l, k, w1, rfl, ⟨rfl, rfl, rfl, b1⟩, kp⟩
    exact ⟨rfl, Kp.over b1 kp (fun g hg => by omega)⟩
/-- 'v = append(v, y)' on a row of the call's own, and where the row then lies. -/
theorem wpList_pushL {P : Program} {wr : World} {ops : Array Oper} {rest : List Oper} {o : Oper} {a : Act} {Q : Exit → Act → World → Prop} (hgd : o.guard = none) (s x : Operand) (t : TypeId)
    (ho : o.op = .call { callee := .builtin .append, args := #[s, x], argTypes := #[t, t] })
    (e : TypeId) (i : TypeInfo) (z : Value) (by' : Nat) (ht : P.underlying t = some (.slice e)) (hi : P.info? e = some i) (hz : i.zero = some z) (hsize : i.size = 1) (hby : i.bytes = by') (hzc : z.cells.size = 1)
    (base : Nat) (v : Value) (vs : List Value) (y : Value) (hy : y.oneCell' = true) (hs : a.eval s = v) (hown : RowV e base wr v vs) (hsz : base ≤ wr.heap.size)
    (hx : a.eval x = .slice (some ⟨wr.heap.size, 0, none⟩) 1 1) (hl : vs.length + 1 ≤ maxLen) (hl2 : (vs.length + 1) * by' ≤ 140737488355328)
    (h : ∀ v' w', RowV e base w' v' (vs ++ [y]) → wr.grownBy w' v.ownBlock → (∀ g, v'.ownBlock = some g → v.ownBlock = some g ∨ wr.heap.size ≤ g) → wpList P ops Q rest (a.put o.dst v') w') :
    wpList P ops Q (o :: rest) a (wr.alloc (.cells #[y] e)) := by
  have hW : (wr.alloc (.cells #[y] e)).heap.size = wr.heap.size + 1 := by simp
  refine wpList_append_lies _ hgd s x t ho base e i z 1 by' ht hi hz hsize hby hzc (by decide) v vs.length vs hs (World.ownsRow.alloc hown _) ⟨wr.heap.size, 0, none⟩ 1 1 [y] hx rfl ?_ ?_ (by decide) hl hl2 (by omega) (wr.heap.size + 1) hW ?_
  · intro j u hj
    match j, hj with
    | 0, hj => simp at hj; subst hj; simp [Addr.add]
  · intro u hu; simp at hu; subst hu; exact hy
  · intro g cap w' hown' hgrow hg _
    refine h _ w' (by simpa [RowV] using hown') ⟨hgrow.os, hgrow.tape, hgrow.output, Nat.le_trans (by simp) hgrow.size, fun k hk hn => ?_⟩ (fun g' e' => ?_)
    · rw [hgrow.block k (by omega) hn]
      exact (below_alloc wr (.cells #[y] e)).block k hk
    · have : g = g' := by simpa [Value.ownBlock] using e'
      subst this
      rcases hg with h1 | h1
      · exact .inl h1
      · exact .inr (by omega)
end Go.Proofs.YtcmfehabcklbpaaDoor

namespace Go.Proofs.YtcmfehabcklbpaaDoor
open Go.RowKit JM

set_option maxRecDepth 100000 in
set_option maxHeartbeats 2000000 in
theorem recovered_fa0 (R : Nat) (S : Nat → Prop) (t t1 : Dk) (kf : Int) (x0 x1 : List Nat) (ep n m : Nat) (sn : List Nat) (rs : List (List Nat)) (w : World) (hx0 : t.b0 = x0) (hx1 : t.b1 = x1) (hw : 0 ≤ t.wr ∧ t.wr < 1152921504606846976) (hdn : t.dn = false) (hn : newest x0 x1 = some (0, ep, sn, n)) (hrs : recs (x0.drop n) = (rs, m)) (hc1 : t.cut 0 x0.length (n + m) = (t1, kf)) (hkf : kf ≠ 0)
    (hnm : n + m ≤ x0.length) (h : DkAt R S t w) (hS : ∀ g, S g → g < w.heap.size) (hb0 : ∀ b ∈ x0, b < 256) (hb1 : ∀ b ∈ x1, b < 256) (hl0 : x0.length ≤ 1000000000000) (hl1 : x1.length ≤ 1000000000000) (hT : TabS w) :
    Calls Tryd.prog 33 #[stV R] w fun e w' => e = .returned (.tuple #[.pointer none, .agg rcZ.toArray, .int .i64 kf]) ∧ DkPost R S w t1 w' := by
  have b0 : Below w.heap.size w (w.alloc (.cells rcZ.toArray 34)) := below_alloc _ _
  have RB : Hid (Calls Tryd.prog 43 #[stV R] (w.alloc (.cells #[.int .i64 0, .slice none 0 0, .slice none 0 0, .int .i64 0] 34)) fun e w' => Below w.heap.size w w' ∧ Blk w.heap.size 34 rcZ w' ∧ ∃ a0 c0 a1 c1, e = .returned (.tuple #[.agg #[.slice a0 x0.length c0, .slice a1 x1.length c1], .int .i64 0]) ∧ RdB w' (.slice a0 x0.length c0) x0 ∧ RdB w' (.slice a1 x1.length c1) x1) := (readBoth_at R S t (w.alloc (.cells rcZ.toArray 34)) (h.below b0)).mono fun e w' ⟨h1, h2⟩ => ⟨below_trans b0 (h1.mono (by simp)), (Blk.new 34 rcZ w).below h1, by
    rw [if_neg (by rw [hdn]; decide), hx0, hx1] at h2
    obtain ⟨a0, c0, a1, c1, e, r0, r1⟩ := h2
    exact ⟨a0, c0, a1, c1, e, RowV.rd r0, RowV.rd r1⟩⟩
  have NW : Hid (∀ a0 c0 a1 c1 w3, Below w.heap.size w w3 → RdB w3 (.slice a0 x0.length c0) x0 → RdB w3 (.slice a1 x1.length c1) x1 → Calls Tryd.prog 45 #[.agg #[.slice a0 x0.length c0, .slice a1 x1.length c1]] w3 fun e w' => ∃ a c, e = .returned (.tuple #[.int .i64 0, .agg (hdL ep (.slice a sn.length c) n).toArray, .bool true]) ∧ Below w3.heap.size w3 w' ∧ OwnT w3.heap.size w' (.slice a sn.length c) sn) := fun a0 c0 a1 c1 w3 b3 r0 r1 => (newest_at x0 x1 a0 a1 c0 c1 w3 hb0 hb1 hl0 hl1 r0 r1 (hT.below b3)).mono fun e w' ⟨h1, hv, h2, h3⟩ => by
    rw [hn] at h2 h3
    obtain ⟨a, c, rfl, ow⟩ := h3
    exact ⟨a, c, h2, h1, ow⟩
  have HN := newest_some hn
  have hle : n ≤ x0.length ∧ 1 ≤ ep ∧ ep ≤ 9223372036854775807 := by
    rcases HN with ⟨_, e⟩ | ⟨_, e⟩
    · first | exact hdF_le e | omega
    · first | exact hdF_le e | omega
  have RR : Hid (∀ a1 c1 w', Below w.heap.size w w' → RdB w' (.slice a1 x0.length c1) x0 → Calls Tryd.prog 46 #[.slice a1 x0.length c1, .int .i64 (n : Int)] w' (RcAns w' n (rs, m))) := fun a1 c1 w' b1 r1 => by
    have := readRecords_at x0 n (.slice a1 x0.length c1) w' hle.1 hb0 hl0 r1 (hT.below b1)
    rwa [hrs] at this
  have dkf : (kf != 0) = true := bne_iff_ne.2 hkf
  clear hkf
  have WA := cut_wr t 0 x0.length (n + m)
  rw [hc1] at WA
  have C1 : Hid (∀ S1 wr a1 c1, DkAt R S1 t wr → Calls Tryd.prog 44 #[stV R, .int .i64 0, .slice a1 x0.length c1, .int .i64 ((n + m : Nat) : Int)] wr fun e w' => e = .returned (.int .i64 kf) ∧ DkPost R S1 wr t1 w') := fun S1 wr a1 c1 d => by
    have := jcut_at R S1 t wr 0 a1 x0.length c1 (n + m) ⟨hw.1, by omega⟩ d
    rwa [hc1] at this
  have DK : Hid (∀ w1, Below w.heap.size w w1 → DkAt R S t w1) := fun w1 b1 => h.below b1
  have NS : Hid (∀ g, w.heap.size ≤ g → ¬ S g) := fun g hg hs => by have := hS g hs; omega
  have lnm : n + m ≤ 1000000000000 := by omega
  have lxf : x0.length ≤ 1000000000000 := hl0
  have LX : Hid (n + m ≤ x0.length ∧ x0.length ≤ 1000000000000 ∧ n + m ≤ 1000000000000) := ⟨hnm, lxf, lnm⟩
  clear h hdn b0 hn hb0 hb1 hl0 hl1 hT hx0 hx1 hw hrs hc1 hS HN hle WA hnm lnm lxf
  go_enter Tryd.func33, Tryd.ntmps33
  go_wp2_with fail
  refine RB.out.mono ?_
  rintro e w2 ⟨b2, k2, a0, c0, a1, c1, rfl, r0, r1⟩
  have B2 : Hid (Below w.heap.size w w2 ∧ Blk w.heap.size 34 rcZ w2) := ⟨b2, k2⟩
  have D2 : Hid (RdB w2 (.slice a0 x0.length c0) x0 ∧ RdB w2 (.slice a1 x1.length c1) x1) := ⟨r0, r1⟩
  clear b2 k2 RB r0 r1
  go_upto_region 2 with (first
    | ((with_reducible refine at_store ?_); refine step_store rfl 83 _ _ rfl w2.heap.size 0 83 z2 [.slice a0 x0.length c0, .slice a1 x1.length c1] rfl rfl (Blk.new 83 z2 w2) (Nat.le_refl _) rfl (two_one _ _ _ _ _ _) ?_; intro w3 nb g3; have B3 : Hid (Below w.heap.size w w3 ∧ Blk w.heap.size 34 rcZ w3 ∧ Blk w2.heap.size 83 [.slice a0 x0.length c0, .slice a1 x1.length c1] w3 ∧ Below w2.heap.size w2 w3) := ⟨below_row (below_trans B2.out.1 (below_alloc _ _)) g3 B2.out.1.size, (B2.out.2.old _).grown g3 (by have := B2.out.2.lt; omega), blk_put (Nat.le_refl _) nb, below_row (below_alloc _ _) g3 (Nat.le_refl _)⟩; clear nb g3))
  have N3 : Hid (Calls Tryd.prog 45 #[.agg #[.slice a0 x0.length c0, .slice a1 x1.length c1]] w3 fun e w' => ∃ a c, e = .returned (.tuple #[.int .i64 0, .agg (hdL ep (.slice a sn.length c) n).toArray, .bool true]) ∧ Below w3.heap.size w3 w' ∧ OwnT w3.heap.size w' (.slice a sn.length c) sn) := NW.out a0 c0 a1 c1 w3 B3.out.1 (D2.out.1.later B3.out.2.2.2) (D2.out.2.later B3.out.2.2.2)
  have HB : Hid (w.heap.size < w2.heap.size) := B2.out.2.lt
  clear NW B2
  obtain ⟨P5, hP5⟩ : ∃ P5, w2.heap.size = P5 := ⟨_, rfl⟩
  have D3 : Hid (RdB w3 (.slice a0 x0.length c0) x0) := D2.out.1.later B3.out.2.2.2
  have B3' : Hid (Below w.heap.size w w3 ∧ Blk w.heap.size 34 rcZ w3 ∧ Blk P5 83 [.slice a0 x0.length c0, .slice a1 x1.length c1] w3) := ⟨B3.out.1, B3.out.2.1, hP5 ▸ B3.out.2.2.1⟩
  rw [hP5] at HB ⊢
  clear hP5 D2 B3
  go_wp2_with (refine step_load rfl 83 _ rfl P5 0 rfl [.slice a0 x0.length c0, .slice a1 x1.length c1] _ B3'.out.2.2.all Tryd.underlying83 rfl rfl ?_)
  refine N3.out.mono ?_
  rintro e w4 ⟨a, c, rfl, b4, ow⟩
  have B4 : Hid (Below w.heap.size w w4 ∧ Blk w.heap.size 34 rcZ w4 ∧ Blk P5 83 [.slice a0 x0.length c0, .slice a1 x1.length c1] w4 ∧ OwnT (w.heap.size + 1) w4 (.slice a sn.length c) sn ∧ RdB w4 (.slice a0 x0.length c0) x0 ∧ (∀ g, (Value.slice a0 x0.length c0).ownBlock = some g → True)) := ⟨below_trans B3'.out.1 b4, B3'.out.2.1.below b4, B3'.out.2.2.below b4, ow.mono (by have := B3'.out.2.1.lt; omega), D3.out.later b4, fun _ _ => trivial⟩
  clear b4 B3' N3 ow D3
  go_upto_region 7 with (first
    | ((with_reducible refine at_store ?_); refine step_store rfl 88 _ _ rfl w4.heap.size 0 88 hdZ (hdL ep (.slice a sn.length c) n) rfl rfl (Blk.new 88 hdZ w4) (Nat.le_refl _) rfl (hdL_one _ _ _ _ _) ?_; intro w5 nb g5; have B5 : Hid (Below w.heap.size w w5 ∧ Blk w.heap.size 34 rcZ w5 ∧ Blk P5 83 [.slice a0 x0.length c0, .slice a1 x1.length c1] w5 ∧ Blk w4.heap.size 88 (hdL ep (.slice a sn.length c) n) w5 ∧ OwnT (w.heap.size + 1) w5 (.slice a sn.length c) sn ∧ RdB w5 (.slice a0 x0.length c0) x0 ∧ w.heap.size < w4.heap.size) := ⟨below_row (below_trans B4.out.1 (below_alloc _ _)) g5 B4.out.1.size, (B4.out.2.1.old _).grown g5 (by have := B4.out.2.1.lt; omega), (B4.out.2.2.1.old _).grown g5 (by have := B4.out.2.2.1.lt; omega), blk_put (Nat.le_refl _) nb, (B4.out.2.2.2.1.later (below_alloc _ _)).kept g5 (fun g' hg' e' => by injection e' with e'; have := B4.out.2.2.2.1.block_lt hg'; omega), B4.out.2.2.2.2.1.later (below_row (below_alloc _ _) g5 (Nat.le_refl _)), B4.out.2.1.lt⟩; clear nb g5 B4))
  obtain ⟨P8, hP8⟩ : ∃ P8, w4.heap.size = P8 := ⟨_, rfl⟩
  rw [hP8] at B5 ⊢
  clear hP8
  have HP8 : Hid (w.heap.size < P8) := B5.out.2.2.2.2.2.2
  refine wp_region_held_drew (S := fun w' => Blk P5 83 [.slice a0 x0.length c0, .slice a1 x1.length c1] w' ∧ Blk P8 88 (hdL ep (.slice a sn.length c) n) w') (by kernel_rfl) (⟨B5.out.2.2.1.below (Below.drew (Below.refl _ _)), B5.out.2.2.2.1.below (Below.drew (Below.refl _ _))⟩) (fun hH => ?_)
  refine wpAnyH_take (i := 0) (oi := { dst := some 35, op := Op.move (Operand.tmp 7), type := 3, pos := "recover.go:33", after := #[], guard := none }) (v := .int .i64 0) rfl (by kernel_rfl) (by kernel_rfl) (by kernel_rfl) (fun _ _ _ h => h) (Or.inl ⟨by rfl, fun w' hs => by go_simp⟩) hH ?_
  try simp only [Act.put, List.setIfInBounds_toArray, List.set_cons_zero, List.set_cons_succ]
  refine wpAnyH_take (i := 1) (oi := { dst := some 36, op := Op.indexAddr 83 (Operand.tmp 5) (Operand.tmp 35), type := 0, pos := "recover.go:33", after := #[{ on := 0, ground := Ground.data }], guard := none }) (v := .pointer (some ⟨P5, 0, none⟩)) rfl (by kernel_rfl) (by kernel_rfl) (by kernel_rfl) (fun _ _ _ h => h) (Or.inl ⟨by rfl, fun w' hs => by go_simp⟩) hH ?_
  try simp only [Act.put, List.setIfInBounds_toArray, List.set_cons_zero, List.set_cons_succ]
  refine wpAnyH_take (i := 2) (oi := { dst := some 37, op := Op.load 22 (Operand.tmp 36), type := 22, pos := "recover.go:33", after := #[{ on := 1, ground := Ground.data }], guard := none }) (v := .slice a0 x0.length c0) rfl (by kernel_rfl) (by kernel_rfl) (by kernel_rfl) (fun _ _ _ h => h) (Or.inl ⟨by rfl, fun w' hs => by have c := hs.1.cell 0 _ rfl; go_simp⟩) hH ?_
  try simp only [Act.put, List.setIfInBounds_toArray, List.set_cons_zero, List.set_cons_succ]
  refine wpAnyH_take (i := 3) (oi := { dst := some 38, op := Op.fieldAddr 88 (Operand.tmp 8) 2, type := 0, pos := "recover.go:33", after := #[], guard := none }) (v := .pointer (some ⟨P8, 2, none⟩)) rfl (by kernel_rfl) (by kernel_rfl) (by kernel_rfl) (fun _ _ _ h => h) (Or.inl ⟨by rfl, fun w' hs => by go_simp⟩) hH ?_
  try simp only [Act.put, List.setIfInBounds_toArray, List.set_cons_zero, List.set_cons_succ]
  refine wpAnyH_take (i := 4) (oi := { dst := some 39, op := Op.load 3 (Operand.tmp 38), type := 3, pos := "recover.go:33", after := #[{ on := 3, ground := Ground.data }], guard := none }) (v := .int .i64 (n : Int)) rfl (by kernel_rfl) (by kernel_rfl) (by kernel_rfl) (fun _ _ _ h => h) (Or.inl ⟨by rfl, fun w' hs => by have c := hs.2.cell 2 _ rfl; go_simp⟩) hH ?_
  try simp only [Act.put, List.setIfInBounds_toArray, List.set_cons_zero, List.set_cons_succ]
  refine wpAnyH_ready (rs := [5]) (by kernel_rfl) (by simp) ?_
  refine AllReadyH.cons (o := { dst := some 40, op := Op.call { callee := Callee.value (Operand.func 46), args := #[Operand.tmp 37, Operand.tmp 39], argTypes := #[22, 3] }, type := 91, pos := "recover.go:33", after := #[{ on := 2, ground := Ground.data }, { on := 4, ground := Ground.data }], guard := none }) rfl (fun K hK => ?_) AllReadyH.nil
  go_simp
  refine (RR.out _ _ _ (Below.drew B5.out.1) (B5.out.2.2.2.2.2.1.later (Below.drew (Below.refl _ _)))).mono ?_
  rintro e w6 ⟨ar, cr, rfl, t6, b6⟩
  have bb6 : Below w5.heap.size w5 w6 := below_trans (Below.drew (Below.refl _ _)) b6
  have B6 : Hid (Below w.heap.size w w6 ∧ Blk w.heap.size 34 rcZ w6 ∧ Blk P5 83 [.slice a0 x0.length c0, .slice a1 x1.length c1] w6 ∧ Blk P8 88 (hdL ep (.slice a sn.length c) n) w6 ∧ OwnT (w.heap.size + 1) w6 (.slice a sn.length c) sn ∧ TlsV (w.heap.size + 1) w6 (.slice ar rs.length cr) rs) := ⟨below_trans B5.out.1 bb6, B5.out.2.1.below bb6, B5.out.2.2.1.below bb6, B5.out.2.2.2.1.below bb6, B5.out.2.2.2.2.1.later bb6, t6.mono B5.out.2.1.lt⟩
  clear t6 b6 bb6
  refine hK.out _ _ ⟨B6.out.2.2.1, B6.out.2.2.2.1⟩ (fun hH => ?_)
  refine wpAnyH_take (i := 6) (oi := { dst := some 34, op := Op.move (Operand.tmp 40), type := 91, pos := "recover.go:33", after := #[{ on := 5, ground := Ground.data }], guard := none }) (v := .tuple #[(.slice ar rs.length cr), .int .i64 ((n + m : Nat) : Int)]) rfl (by kernel_rfl) (by kernel_rfl) (by kernel_rfl) (fun _ _ _ h => h) (Or.inl ⟨by rfl, fun w' hs => by go_simp⟩) hH ?_
  try simp only [Act.put, List.setIfInBounds_toArray, List.set_cons_zero, List.set_cons_succ]
  refine wpAnyH_take (i := 7) (oi := { dst := some 41, op := Op.extract (Operand.tmp 34) 0, type := 32, pos := "recover.go:33", after := #[{ on := 6, ground := Ground.data }], guard := none }) (v := (.slice ar rs.length cr)) rfl (by kernel_rfl) (by kernel_rfl) (by kernel_rfl) (fun _ _ _ h => h) (Or.inl ⟨by rfl, fun w' hs => by go_simp⟩) hH ?_
  try simp only [Act.put, List.setIfInBounds_toArray, List.set_cons_zero, List.set_cons_succ]
  refine wpAnyH_take (i := 8) (oi := { dst := some 42, op := Op.extract (Operand.tmp 34) 1, type := 3, pos := "recover.go:33", after := #[{ on := 6, ground := Ground.data }, { on := 9, ground := Ground.gcOnly Departure.lateStores }], guard := none }) (v := .int .i64 ((n + m : Nat) : Int)) rfl (by kernel_rfl) (by kernel_rfl) (by kernel_rfl) (fun _ _ _ h => h) (Or.inl ⟨by rfl, fun w' hs => by go_simp⟩) hH ?_
  try simp only [Act.put, List.setIfInBounds_toArray, List.set_cons_zero, List.set_cons_succ]
  refine wpAnyH_take (i := 9) (oi := { dst := some 10, op := Op.assign (Operand.tmp 41), type := 32, pos := "recover.go:33", after := #[{ on := 7, ground := Ground.data }, { on := 5, ground := Ground.chain }, { on := 0, ground := Ground.phase }, { on := 1, ground := Ground.phase }, { on := 2, ground := Ground.phase }, { on := 3, ground := Ground.phase }, { on := 4, ground := Ground.phase }, { on := 5, ground := Ground.phase }, { on := 6, ground := Ground.phase }, { on := 7, ground := Ground.phase }, { on := 8, ground := Ground.textOnly Departure.lateStores }], guard := none }) (v := (.slice ar rs.length cr)) rfl (by kernel_rfl) (by kernel_rfl) (by kernel_rfl) (fun _ _ _ h => h) (Or.inl ⟨by rfl, fun w' hs => by go_simp⟩) hH ?_
  try simp only [Act.put, List.setIfInBounds_toArray, List.set_cons_zero, List.set_cons_succ]
  refine wpAnyH_take (i := 10) (oi := { dst := some 11, op := Op.assign (Operand.tmp 42), type := 3, pos := "recover.go:33", after := #[{ on := 8, ground := Ground.data }, { on := 9, ground := Ground.chain }, { on := 0, ground := Ground.phase }, { on := 1, ground := Ground.phase }, { on := 2, ground := Ground.phase }, { on := 3, ground := Ground.phase }, { on := 4, ground := Ground.phase }, { on := 5, ground := Ground.phase }, { on := 6, ground := Ground.phase }, { on := 7, ground := Ground.phase }, { on := 8, ground := Ground.phase }, { on := 9, ground := Ground.phase }], guard := none }) (v := .int .i64 ((n + m : Nat) : Int)) rfl (by kernel_rfl) (by kernel_rfl) (by kernel_rfl) (fun _ _ _ h => h) (Or.inl ⟨by rfl, fun w' hs => by go_simp⟩) hH ?_
  try simp only [Act.put, List.setIfInBounds_toArray, List.set_cons_zero, List.set_cons_succ]
  refine wpAnyH_done (by kernel_rfl) ?_ _
  clear hH hK B5 RR
  have y5 := B6.out.2.2.1.cell 0 _ rfl
  have C1' : Hid (Calls Tryd.prog 44 #[stV R, .int .i64 0, .slice a0 x0.length c0, .int .i64 ((n + m : Nat) : Int)] w6 fun e w' => e = .returned (.int .i64 kf) ∧ DkPost R S w6 t1 w') := C1.out S w6 _ _ (DK.out w6 B6.out.1)
  clear C1 DK
  obtain ⟨k, hk⟩ : ∃ k, n + m = k := ⟨_, rfl⟩
  rw [hk] at C1' LX ⊢
  have HK : Hid (n + m = k) := hk
  clear hk
  go_wp2_with fail
  refine C1'.out.mono ?_
  rintro e w7 ⟨rfl, S1, D7, G7, K7⟩
  clear C1'
  have NH : Hid (¬ S1 w.heap.size) := fun hs => (G7 _ hs).elim (NS.out _ (Nat.le_refl _)) (fun h => by have := B6.out.2.1.lt; omega)
  have BX : Hid (Blk w.heap.size 34 rcZ w7 ∧ DkAt R S1 t1 w7 ∧ (∀ g, S1 g → S g ∨ w.heap.size ≤ g) ∧ Kp S w w7) := ⟨B6.out.2.1.kp K7 (NS.out _ (Nat.le_refl _)), D7, fun g hg => (G7 g hg).imp id (fun h => Nat.le_trans B6.out.1.size h), (Kp.of_below B6.out.1 S).trans K7 (fun _ _ h => h)⟩
  clear D7 G7 K7 B6
  go_wp2_with ((with_reducible refine at_store ?_); refine step_store rfl 34 _ _ rfl w.heap.size 0 34 rcZ rcZ rfl rfl BX.out.1 (Nat.le_refl _) rfl rcZ_one ?_; intro wY nb gY; have BY : Hid (Blk w.heap.size 34 rcZ wY ∧ Kp (fun g => g = w.heap.size) w7 wY) := ⟨blk_put (Nat.le_refl _) nb, (Kp.of_grown gY).mono (fun g _ e => by injection e with e; exact e.symm)⟩; clear nb gY)
  refine ret_tmp_blk_tmp rfl rfl w.heap.size 34 rcZ _ rfl BY.out.1 Tryd.underlying34 rfl rfl ?_
  obtain ⟨v1, v2, v3, v4⟩ := BX.out
  exact ⟨rfl, S1, v2.kp BY.out.2 (fun g hg e => NH.out (e ▸ hg)), v3, v4.trans BY.out.2 (fun g hg e => by omega)⟩

set_option maxRecDepth 100000 in
set_option maxHeartbeats 2000000 in
theorem recovered_fb0 (R : Nat) (S : Nat → Prop) (t t1 t2 : Dk) (kf : Int) (x0 x1 : List Nat) (ep n m : Nat) (sn : List Nat) (rs : List (List Nat)) (w : World) (hx0 : t.b0 = x0) (hx1 : t.b1 = x1) (hw : 0 ≤ t.wr ∧ t.wr < 1152921504606846976) (hdn : t.dn = false) (hn : newest x0 x1 = some (0, ep, sn, n)) (hrs : recs (x0.drop n) = (rs, m)) (hc1 : t.cut 0 x0.length (n + m) = (t1, 0)) (hc2 : t1.cut 1 x1.length 0 = (t2, kf)) (hkf : kf ≠ 0)
    (hnm : n + m ≤ x0.length) (h : DkAt R S t w) (hS : ∀ g, S g → g < w.heap.size) (hb0 : ∀ b ∈ x0, b < 256) (hb1 : ∀ b ∈ x1, b < 256) (hl0 : x0.length ≤ 1000000000000) (hl1 : x1.length ≤ 1000000000000) (hT : TabS w) :
    Calls Tryd.prog 33 #[stV R] w fun e w' => e = .returned (.tuple #[.pointer none, .agg rcZ.toArray, .int .i64 kf]) ∧ DkPost R S w t2 w' := by
  have b0 : Below w.heap.size w (w.alloc (.cells rcZ.toArray 34)) := below_alloc _ _
  have RB : Hid (Calls Tryd.prog 43 #[stV R] (w.alloc (.cells #[.int .i64 0, .slice none 0 0, .slice none 0 0, .int .i64 0] 34)) fun e w' => Below w.heap.size w w' ∧ Blk w.heap.size 34 rcZ w' ∧ ∃ a0 c0 a1 c1, e = .returned (.tuple #[.agg #[.slice a0 x0.length c0, .slice a1 x1.length c1], .int .i64 0]) ∧ RdB w' (.slice a0 x0.length c0) x0 ∧ RdB w' (.slice a1 x1.length c1) x1) := (readBoth_at R S t (w.alloc (.cells rcZ.toArray 34)) (h.below b0)).mono fun e w' ⟨h1, h2⟩ => ⟨below_trans b0 (h1.mono (by simp)), (Blk.new 34 rcZ w).below h1, by
    rw [if_neg (by rw [hdn]; decide), hx0, hx1] at h2
    obtain ⟨a0, c0, a1, c1, e, r0, r1⟩ := h2
    exact ⟨a0, c0, a1, c1, e, RowV.rd r0, RowV.rd r1⟩⟩
  have NW : Hid (∀ a0 c0 a1 c1 w3, Below w.heap.size w w3 → RdB w3 (.slice a0 x0.length c0) x0 → RdB w3 (.slice a1 x1.length c1) x1 → Calls Tryd.prog 45 #[.agg #[.slice a0 x0.length c0, .slice a1 x1.length c1]] w3 fun e w' => ∃ a c, e = .returned (.tuple #[.int .i64 0, .agg (hdL ep (.slice a sn.length c) n).toArray, .bool true]) ∧ Below w3.heap.size w3 w' ∧ OwnT w3.heap.size w' (.slice a sn.length c) sn) := fun a0 c0 a1 c1 w3 b3 r0 r1 => (newest_at x0 x1 a0 a1 c0 c1 w3 hb0 hb1 hl0 hl1 r0 r1 (hT.below b3)).mono fun e w' ⟨h1, hv, h2, h3⟩ => by
    rw [hn] at h2 h3
    obtain ⟨a, c, rfl, ow⟩ := h3
    exact ⟨a, c, h2, h1, ow⟩
  have HN := newest_some hn
  have hle : n ≤ x0.length ∧ 1 ≤ ep ∧ ep ≤ 9223372036854775807 := by
    rcases HN with ⟨_, e⟩ | ⟨_, e⟩
    · first | exact hdF_le e | omega
    · first | exact hdF_le e | omega
  have RR : Hid (∀ a1 c1 w', Below w.heap.size w w' → RdB w' (.slice a1 x0.length c1) x0 → Calls Tryd.prog 46 #[.slice a1 x0.length c1, .int .i64 (n : Int)] w' (RcAns w' n (rs, m))) := fun a1 c1 w' b1 r1 => by
    have := readRecords_at x0 n (.slice a1 x0.length c1) w' hle.1 hb0 hl0 r1 (hT.below b1)
    rwa [hrs] at this
  have dkf : (kf != 0) = true := bne_iff_ne.2 hkf
  clear hkf
  have WA := cut_wr t 0 x0.length (n + m)
  rw [hc1] at WA
  have C1 : Hid (∀ S1 wr a1 c1, DkAt R S1 t wr → Calls Tryd.prog 44 #[stV R, .int .i64 0, .slice a1 x0.length c1, .int .i64 ((n + m : Nat) : Int)] wr fun e w' => e = .returned (.int .i64 0) ∧ DkPost R S1 wr t1 w') := fun S1 wr a1 c1 d => by
    have := jcut_at R S1 t wr 0 a1 x0.length c1 (n + m) ⟨hw.1, by omega⟩ d
    rwa [hc1] at this
  have C2 : Hid (∀ S1 wr a1 c1, DkAt R S1 t1 wr → Calls Tryd.prog 44 #[stV R, .int .i64 1, .slice a1 x1.length c1, .int .i64 0] wr fun e w' => e = .returned (.int .i64 kf) ∧ DkPost R S1 wr t2 w') := fun S1 wr a1 c1 d => by
    have := jcut_at R S1 t1 wr 1 a1 x1.length c1 0 ⟨by simp at WA; omega, by simp at WA; omega⟩ d
    rwa [hc2] at this
  have OT : Hid (∀ w1, Calls Tryd.prog 38 #[.int .i64 0] w1 fun e w' => e = .returned (.int .i64 1) ∧ w1 = w') := fun w1 => (other_at 0 (by omega) w1).mono fun e w' h => ⟨h.1, h.2.symm⟩
  have DK : Hid (∀ w1, Below w.heap.size w w1 → DkAt R S t w1) := fun w1 b1 => h.below b1
  have NS : Hid (∀ g, w.heap.size ≤ g → ¬ S g) := fun g hg hs => by have := hS g hs; omega
  have lnm : n + m ≤ 1000000000000 := by omega
  have lxf : x0.length ≤ 1000000000000 := hl0
  have LX : Hid (n + m ≤ x0.length ∧ x0.length ≤ 1000000000000 ∧ n + m ≤ 1000000000000) := ⟨hnm, lxf, lnm⟩
  clear h hdn b0 hn hb0 hb1 hl0 hl1 hT hx0 hx1 hw hrs hc1 hc2 hS HN hle WA hnm lnm lxf
  go_enter Tryd.func33, Tryd.ntmps33
  go_wp2_with fail
  refine RB.out.mono ?_
  rintro e w2 ⟨b2, k2, a0, c0, a1, c1, rfl, r0, r1⟩
  have B2 : Hid (Below w.heap.size w w2 ∧ Blk w.heap.size 34 rcZ w2) := ⟨b2, k2⟩
  have D2 : Hid (RdB w2 (.slice a0 x0.length c0) x0 ∧ RdB w2 (.slice a1 x1.length c1) x1) := ⟨r0, r1⟩
  clear b2 k2 RB r0 r1
  go_upto_region 2 with (first
    | ((with_reducible refine at_store ?_); refine step_store rfl 83 _ _ rfl w2.heap.size 0 83 z2 [.slice a0 x0.length c0, .slice a1 x1.length c1] rfl rfl (Blk.new 83 z2 w2) (Nat.le_refl _) rfl (two_one _ _ _ _ _ _) ?_; intro w3 nb g3; have B3 : Hid (Below w.heap.size w w3 ∧ Blk w.heap.size 34 rcZ w3 ∧ Blk w2.heap.size 83 [.slice a0 x0.length c0, .slice a1 x1.length c1] w3 ∧ Below w2.heap.size w2 w3) := ⟨below_row (below_trans B2.out.1 (below_alloc _ _)) g3 B2.out.1.size, (B2.out.2.old _).grown g3 (by have := B2.out.2.lt; omega), blk_put (Nat.le_refl _) nb, below_row (below_alloc _ _) g3 (Nat.le_refl _)⟩; clear nb g3))
  have N3 : Hid (Calls Tryd.prog 45 #[.agg #[.slice a0 x0.length c0, .slice a1 x1.length c1]] w3 fun e w' => ∃ a c, e = .returned (.tuple #[.int .i64 0, .agg (hdL ep (.slice a sn.length c) n).toArray, .bool true]) ∧ Below w3.heap.size w3 w' ∧ OwnT w3.heap.size w' (.slice a sn.length c) sn) := NW.out a0 c0 a1 c1 w3 B3.out.1 (D2.out.1.later B3.out.2.2.2) (D2.out.2.later B3.out.2.2.2)
  have HB : Hid (w.heap.size < w2.heap.size) := B2.out.2.lt
  clear NW B2
  obtain ⟨P5, hP5⟩ : ∃ P5, w2.heap.size = P5 := ⟨_, rfl⟩
  have D3 : Hid (RdB w3 (.slice a0 x0.length c0) x0) := D2.out.1.later B3.out.2.2.2
  have B3' : Hid (Below w.heap.size w w3 ∧ Blk w.heap.size 34 rcZ w3 ∧ Blk P5 83 [.slice a0 x0.length c0, .slice a1 x1.length c1] w3) := ⟨B3.out.1, B3.out.2.1, hP5 ▸ B3.out.2.2.1⟩
  rw [hP5] at HB ⊢
  clear hP5 D2 B3
  go_wp2_with (refine step_load rfl 83 _ rfl P5 0 rfl [.slice a0 x0.length c0, .slice a1 x1.length c1] _ B3'.out.2.2.all Tryd.underlying83 rfl rfl ?_)
  refine N3.out.mono ?_
  rintro e w4 ⟨a, c, rfl, b4, ow⟩
  have B4 : Hid (Below w.heap.size w w4 ∧ Blk w.heap.size 34 rcZ w4 ∧ Blk P5 83 [.slice a0 x0.length c0, .slice a1 x1.length c1] w4 ∧ OwnT (w.heap.size + 1) w4 (.slice a sn.length c) sn ∧ RdB w4 (.slice a0 x0.length c0) x0 ∧ (∀ g, (Value.slice a0 x0.length c0).ownBlock = some g → True)) := ⟨below_trans B3'.out.1 b4, B3'.out.2.1.below b4, B3'.out.2.2.below b4, ow.mono (by have := B3'.out.2.1.lt; omega), D3.out.later b4, fun _ _ => trivial⟩
  clear b4 B3' N3 ow D3
  go_upto_region 7 with (first
    | ((with_reducible refine at_store ?_); refine step_store rfl 88 _ _ rfl w4.heap.size 0 88 hdZ (hdL ep (.slice a sn.length c) n) rfl rfl (Blk.new 88 hdZ w4) (Nat.le_refl _) rfl (hdL_one _ _ _ _ _) ?_; intro w5 nb g5; have B5 : Hid (Below w.heap.size w w5 ∧ Blk w.heap.size 34 rcZ w5 ∧ Blk P5 83 [.slice a0 x0.length c0, .slice a1 x1.length c1] w5 ∧ Blk w4.heap.size 88 (hdL ep (.slice a sn.length c) n) w5 ∧ OwnT (w.heap.size + 1) w5 (.slice a sn.length c) sn ∧ RdB w5 (.slice a0 x0.length c0) x0 ∧ w.heap.size < w4.heap.size) := ⟨below_row (below_trans B4.out.1 (below_alloc _ _)) g5 B4.out.1.size, (B4.out.2.1.old _).grown g5 (by have := B4.out.2.1.lt; omega), (B4.out.2.2.1.old _).grown g5 (by have := B4.out.2.2.1.lt; omega), blk_put (Nat.le_refl _) nb, (B4.out.2.2.2.1.later (below_alloc _ _)).kept g5 (fun g' hg' e' => by injection e' with e'; have := B4.out.2.2.2.1.block_lt hg'; omega), B4.out.2.2.2.2.1.later (below_row (below_alloc _ _) g5 (Nat.le_refl _)), B4.out.2.1.lt⟩; clear nb g5 B4))
  obtain ⟨P8, hP8⟩ : ∃ P8, w4.heap.size = P8 := ⟨_, rfl⟩
  rw [hP8] at B5 ⊢
  clear hP8
  have HP8 : Hid (w.heap.size < P8) := B5.out.2.2.2.2.2.2
  refine wp_region_held_drew (S := fun w' => Blk P5 83 [.slice a0 x0.length c0, .slice a1 x1.length c1] w' ∧ Blk P8 88 (hdL ep (.slice a sn.length c) n) w') (by kernel_rfl) (⟨B5.out.2.2.1.below (Below.drew (Below.refl _ _)), B5.out.2.2.2.1.below (Below.drew (Below.refl _ _))⟩) (fun hH => ?_)
  refine wpAnyH_take (i := 0) (oi := { dst := some 35, op := Op.move (Operand.tmp 7), type := 3, pos := "recover.go:33", after := #[], guard := none }) (v := .int .i64 0) rfl (by kernel_rfl) (by kernel_rfl) (by kernel_rfl) (fun _ _ _ h => h) (Or.inl ⟨by rfl, fun w' hs => by go_simp⟩) hH ?_
  try simp only [Act.put, List.setIfInBounds_toArray, List.set_cons_zero, List.set_cons_succ]
  refine wpAnyH_take (i := 1) (oi := { dst := some 36, op := Op.indexAddr 83 (Operand.tmp 5) (Operand.tmp 35), type := 0, pos := "recover.go:33", after := #[{ on := 0, ground := Ground.data }], guard := none }) (v := .pointer (some ⟨P5, 0, none⟩)) rfl (by kernel_rfl) (by kernel_rfl) (by kernel_rfl) (fun _ _ _ h => h) (Or.inl ⟨by rfl, fun w' hs => by go_simp⟩) hH ?_
  try simp only [Act.put, List.setIfInBounds_toArray, List.set_cons_zero, List.set_cons_succ]
  refine wpAnyH_take (i := 2) (oi := { dst := some 37, op := Op.load 22 (Operand.tmp 36), type := 22, pos := "recover.go:33", after := #[{ on := 1, ground := Ground.data }], guard := none }) (v := .slice a0 x0.length c0) rfl (by kernel_rfl) (by kernel_rfl) (by kernel_rfl) (fun _ _ _ h => h) (Or.inl ⟨by rfl, fun w' hs => by have c := hs.1.cell 0 _ rfl; go_simp⟩) hH ?_
  try simp only [Act.put, List.setIfInBounds_toArray, List.set_cons_zero, List.set_cons_succ]
  refine wpAnyH_take (i := 3) (oi := { dst := some 38, op := Op.fieldAddr 88 (Operand.tmp 8) 2, type := 0, pos := "recover.go:33", after := #[], guard := none }) (v := .pointer (some ⟨P8, 2, none⟩)) rfl (by kernel_rfl) (by kernel_rfl) (by kernel_rfl) (fun _ _ _ h => h) (Or.inl ⟨by rfl, fun w' hs => by go_simp⟩) hH ?_
  try simp only [Act.put, List.setIfInBounds_toArray, List.set_cons_zero, List.set_cons_succ]
  refine wpAnyH_take (i := 4) (oi := { dst := some 39, op := Op.load 3 (Operand.tmp 38), type := 3, pos := "recover.go:33", after := #[{ on := 3, ground := Ground.data }], guard := none }) (v := .int .i64 (n : Int)) rfl (by kernel_rfl) (by kernel_rfl) (by kernel_rfl) (fun _ _ _ h => h) (Or.inl ⟨by rfl, fun w' hs => by have c := hs.2.cell 2 _ rfl; go_simp⟩) hH ?_
  try simp only [Act.put, List.setIfInBounds_toArray, List.set_cons_zero, List.set_cons_succ]
  refine wpAnyH_ready (rs := [5]) (by kernel_rfl) (by simp) ?_
  refine AllReadyH.cons (o := { dst := some 40, op := Op.call { callee := Callee.value (Operand.func 46), args := #[Operand.tmp 37, Operand.tmp 39], argTypes := #[22, 3] }, type := 91, pos := "recover.go:33", after := #[{ on := 2, ground := Ground.data }, { on := 4, ground := Ground.data }], guard := none }) rfl (fun K hK => ?_) AllReadyH.nil
  go_simp
  refine (RR.out _ _ _ (Below.drew B5.out.1) (B5.out.2.2.2.2.2.1.later (Below.drew (Below.refl _ _)))).mono ?_
  rintro e w6 ⟨ar, cr, rfl, t6, b6⟩
  have bb6 : Below w5.heap.size w5 w6 := below_trans (Below.drew (Below.refl _ _)) b6
  have B6 : Hid (Below w.heap.size w w6 ∧ Blk w.heap.size 34 rcZ w6 ∧ Blk P5 83 [.slice a0 x0.length c0, .slice a1 x1.length c1] w6 ∧ Blk P8 88 (hdL ep (.slice a sn.length c) n) w6 ∧ OwnT (w.heap.size + 1) w6 (.slice a sn.length c) sn ∧ TlsV (w.heap.size + 1) w6 (.slice ar rs.length cr) rs) := ⟨below_trans B5.out.1 bb6, B5.out.2.1.below bb6, B5.out.2.2.1.below bb6, B5.out.2.2.2.1.below bb6, B5.out.2.2.2.2.1.later bb6, t6.mono B5.out.2.1.lt⟩
  clear t6 b6 bb6
  refine hK.out _ _ ⟨B6.out.2.2.1, B6.out.2.2.2.1⟩ (fun hH => ?_)
  refine wpAnyH_take (i := 6) (oi := { dst := some 34, op := Op.move (Operand.tmp 40), type := 91, pos := "recover.go:33", after := #[{ on := 5, ground := Ground.data }], guard := none }) (v := .tuple #[(.slice ar rs.length cr), .int .i64 ((n + m : Nat) : Int)]) rfl (by kernel_rfl) (by kernel_rfl) (by kernel_rfl) (fun _ _ _ h => h) (Or.inl ⟨by rfl, fun w' hs => by go_simp⟩) hH ?_
  try simp only [Act.put, List.setIfInBounds_toArray, List.set_cons_zero, List.set_cons_succ]
  refine wpAnyH_take (i := 7) (oi := { dst := some 41, op := Op.extract (Operand.tmp 34) 0, type := 32, pos := "recover.go:33", after := #[{ on := 6, ground := Ground.data }], guard := none }) (v := (.slice ar rs.length cr)) rfl (by kernel_rfl) (by kernel_rfl) (by kernel_rfl) (fun _ _ _ h => h) (Or.inl ⟨by rfl, fun w' hs => by go_simp⟩) hH ?_
  try simp only [Act.put, List.setIfInBounds_toArray, List.set_cons_zero, List.set_cons_succ]
  refine wpAnyH_take (i := 8) (oi := { dst := some 42, op := Op.extract (Operand.tmp 34) 1, type := 3, pos := "recover.go:33", after := #[{ on := 6, ground := Ground.data }, { on := 9, ground := Ground.gcOnly Departure.lateStores }], guard := none }) (v := .int .i64 ((n + m : Nat) : Int)) rfl (by kernel_rfl) (by kernel_rfl) (by kernel_rfl) (fun _ _ _ h => h) (Or.inl ⟨by rfl, fun w' hs => by go_simp⟩) hH ?_
  try simp only [Act.put, List.setIfInBounds_toArray, List.set_cons_zero, List.set_cons_succ]
  refine wpAnyH_take (i := 9) (oi := { dst := some 10, op := Op.assign (Operand.tmp 41), type := 32, pos := "recover.go:33", after := #[{ on := 7, ground := Ground.data }, { on := 5, ground := Ground.chain }, { on := 0, ground := Ground.phase }, { on := 1, ground := Ground.phase }, { on := 2, ground := Ground.phase }, { on := 3, ground := Ground.phase }, { on := 4, ground := Ground.phase }, { on := 5, ground := Ground.phase }, { on := 6, ground := Ground.phase }, { on := 7, ground := Ground.phase }, { on := 8, ground := Ground.textOnly Departure.lateStores }], guard := none }) (v := (.slice ar rs.length cr)) rfl (by kernel_rfl) (by kernel_rfl) (by kernel_rfl) (fun _ _ _ h => h) (Or.inl ⟨by rfl, fun w' hs => by go_simp⟩) hH ?_
  try simp only [Act.put, List.setIfInBounds_toArray, List.set_cons_zero, List.set_cons_succ]
  refine wpAnyH_take (i := 10) (oi := { dst := some 11, op := Op.assign (Operand.tmp 42), type := 3, pos := "recover.go:33", after := #[{ on := 8, ground := Ground.data }, { on := 9, ground := Ground.chain }, { on := 0, ground := Ground.phase }, { on := 1, ground := Ground.phase }, { on := 2, ground := Ground.phase }, { on := 3, ground := Ground.phase }, { on := 4, ground := Ground.phase }, { on := 5, ground := Ground.phase }, { on := 6, ground := Ground.phase }, { on := 7, ground := Ground.phase }, { on := 8, ground := Ground.phase }, { on := 9, ground := Ground.phase }], guard := none }) (v := .int .i64 ((n + m : Nat) : Int)) rfl (by kernel_rfl) (by kernel_rfl) (by kernel_rfl) (fun _ _ _ h => h) (Or.inl ⟨by rfl, fun w' hs => by go_simp⟩) hH ?_
  try simp only [Act.put, List.setIfInBounds_toArray, List.set_cons_zero, List.set_cons_succ]
  refine wpAnyH_done (by kernel_rfl) ?_ _
  clear hH hK B5 RR
  have y5 := B6.out.2.2.1.cell 0 _ rfl
  have C1' : Hid (Calls Tryd.prog 44 #[stV R, .int .i64 0, .slice a0 x0.length c0, .int .i64 ((n + m : Nat) : Int)] w6 fun e w' => e = .returned (.int .i64 0) ∧ DkPost R S w6 t1 w') := C1.out S w6 _ _ (DK.out w6 B6.out.1)
  clear C1 DK
  obtain ⟨k, hk⟩ : ∃ k, n + m = k := ⟨_, rfl⟩
  rw [hk] at C1' LX ⊢
  have HK : Hid (n + m = k) := hk
  clear hk
  go_wp2_with fail
  refine C1'.out.mono ?_
  rintro e w7 ⟨rfl, S1, D7, G7, K7⟩
  have K5 : Blk P5 83 [.slice a0 x0.length c0, .slice a1 x1.length c1] w7 := B6.out.2.2.1.kp K7 (NS.out P5 (by have := HB.out; omega))
  have y6 := K5.cell 1 _ rfl
  have C2' : Hid (Calls Tryd.prog 44 #[stV R, .int .i64 1, .slice a1 x1.length c1, .int .i64 0] w7 fun e w' => e = .returned (.int .i64 kf) ∧ DkPost R S1 w7 t2 w') := C2.out S1 w7 _ _ D7
  have GG : Hid ((∀ g, S1 g → S g ∨ w6.heap.size ≤ g) ∧ Kp S w6 w7) := ⟨G7, K7⟩
  clear D7 G7 K7 K5 C2 y5 C1'
  go_wp2_with fail
  refine (OT.out _).mono ?_
  rintro e w' ⟨rfl, rfl⟩
  go_wp2_with fail
  refine (OT.out _).mono ?_
  rintro e w' ⟨rfl, rfl⟩
  go_wp2_with fail
  refine C2'.out.mono ?_
  rintro e w8 ⟨rfl, p8⟩
  obtain ⟨S2, D8, G8, K8⟩ := DkPost.trans GG.out.1 GG.out.2 p8
  clear p8 GG C2' y6 OT
  have NH : Hid (¬ S2 w.heap.size) := fun hs => (G8 _ hs).elim (NS.out _ (Nat.le_refl _)) (fun h => by have := B6.out.2.1.lt; omega)
  have BX : Hid (Blk w.heap.size 34 rcZ w8 ∧ DkAt R S2 t2 w8 ∧ (∀ g, S2 g → S g ∨ w.heap.size ≤ g) ∧ Kp S w w8) := ⟨B6.out.2.1.kp K8 (NS.out _ (Nat.le_refl _)), D8, fun g hg => (G8 g hg).imp id (fun h => Nat.le_trans B6.out.1.size h), (Kp.of_below B6.out.1 S).trans K8 (fun _ _ h => h)⟩
  clear D8 G8 K8 B6
  go_wp2_with ((with_reducible refine at_store ?_); refine step_store rfl 34 _ _ rfl w.heap.size 0 34 rcZ rcZ rfl rfl BX.out.1 (Nat.le_refl _) rfl rcZ_one ?_; intro wY nb gY; have BY : Hid (Blk w.heap.size 34 rcZ wY ∧ Kp (fun g => g = w.heap.size) w8 wY) := ⟨blk_put (Nat.le_refl _) nb, (Kp.of_grown gY).mono (fun g _ e => by injection e with e; exact e.symm)⟩; clear nb gY)
  refine ret_tmp_blk_tmp rfl rfl w.heap.size 34 rcZ _ rfl BY.out.1 Tryd.underlying34 rfl rfl ?_
  obtain ⟨v1, v2, v3, v4⟩ := BX.out
  exact ⟨rfl, S2, v2.kp BY.out.2 (fun g hg e => NH.out (e ▸ hg)), v3, v4.trans BY.out.2 (fun g hg e => by omega)⟩

set_option maxRecDepth 100000 in
set_option maxHeartbeats 2000000 in
theorem recovered_fa1 (R : Nat) (S : Nat → Prop) (t t1 : Dk) (kf : Int) (x0 x1 : List Nat) (ep n m : Nat) (sn : List Nat) (rs : List (List Nat)) (w : World) (hx0 : t.b0 = x0) (hx1 : t.b1 = x1) (hw : 0 ≤ t.wr ∧ t.wr < 1152921504606846976) (hdn : t.dn = false) (hn : newest x0 x1 = some (1, ep, sn, n)) (hrs : recs (x1.drop n) = (rs, m)) (hc1 : t.cut 1 x1.length (n + m) = (t1, kf)) (hkf : kf ≠ 0)
    (hnm : n + m ≤ x1.length) (h : DkAt R S t w) (hS : ∀ g, S g → g < w.heap.size) (hb0 : ∀ b ∈ x0, b < 256) (hb1 : ∀ b ∈ x1, b < 256) (hl0 : x0.length ≤ 1000000000000) (hl1 : x1.length ≤ 1000000000000) (hT : TabS w) :
    Calls Tryd.prog 33 #[stV R] w fun e w' => e = .returned (.tuple #[.pointer none, .agg rcZ.toArray, .int .i64 kf]) ∧ DkPost R S w t1 w' := by
  have b0 : Below w.heap.size w (w.alloc (.cells rcZ.toArray 34)) := below_alloc _ _
  have RB : Hid (Calls Tryd.prog 43 #[stV R] (w.alloc (.cells #[.int .i64 0, .slice none 0 0, .slice none 0 0, .int .i64 0] 34)) fun e w' => Below w.heap.size w w' ∧ Blk w.heap.size 34 rcZ w' ∧ ∃ a0 c0 a1 c1, e = .returned (.tuple #[.agg #[.slice a0 x0.length c0, .slice a1 x1.length c1], .int .i64 0]) ∧ RdB w' (.slice a0 x0.length c0) x0 ∧ RdB w' (.slice a1 x1.length c1) x1) := (readBoth_at R S t (w.alloc (.cells rcZ.toArray 34)) (h.below b0)).mono fun e w' ⟨h1, h2⟩ => ⟨below_trans b0 (h1.mono (by simp)), (Blk.new 34 rcZ w).below h1, by
    rw [if_neg (by rw [hdn]; decide), hx0, hx1] at h2
    obtain ⟨a0, c0, a1, c1, e, r0, r1⟩ := h2
    exact ⟨a0, c0, a1, c1, e, RowV.rd r0, RowV.rd r1⟩⟩
  have NW : Hid (∀ a0 c0 a1 c1 w3, Below w.heap.size w w3 → RdB w3 (.slice a0 x0.length c0) x0 → RdB w3 (.slice a1 x1.length c1) x1 → Calls Tryd.prog 45 #[.agg #[.slice a0 x0.length c0, .slice a1 x1.length c1]] w3 fun e w' => ∃ a c, e = .returned (.tuple #[.int .i64 1, .agg (hdL ep (.slice a sn.length c) n).toArray, .bool true]) ∧ Below w3.heap.size w3 w' ∧ OwnT w3.heap.size w' (.slice a sn.length c) sn) := fun a0 c0 a1 c1 w3 b3 r0 r1 => (newest_at x0 x1 a0 a1 c0 c1 w3 hb0 hb1 hl0 hl1 r0 r1 (hT.below b3)).mono fun e w' ⟨h1, hv, h2, h3⟩ => by
    rw [hn] at h2 h3
    obtain ⟨a, c, rfl, ow⟩ := h3
    exact ⟨a, c, h2, h1, ow⟩
  have HN := newest_some hn
  have hle : n ≤ x1.length ∧ 1 ≤ ep ∧ ep ≤ 9223372036854775807 := by
    rcases HN with ⟨_, e⟩ | ⟨_, e⟩
    · first | exact hdF_le e | omega
    · first | exact hdF_le e | omega
  have RR : Hid (∀ a1 c1 w', Below w.heap.size w w' → RdB w' (.slice a1 x1.length c1) x1 → Calls Tryd.prog 46 #[.slice a1 x1.length c1, .int .i64 (n : Int)] w' (RcAns w' n (rs, m))) := fun a1 c1 w' b1 r1 => by
    have := readRecords_at x1 n (.slice a1 x1.length c1) w' hle.1 hb1 hl1 r1 (hT.below b1)
    rwa [hrs] at this
  have dkf : (kf != 0) = true := bne_iff_ne.2 hkf
  clear hkf
  have WA := cut_wr t 1 x1.length (n + m)
  rw [hc1] at WA
  have C1 : Hid (∀ S1 wr a1 c1, DkAt R S1 t wr → Calls Tryd.prog 44 #[stV R, .int .i64 1, .slice a1 x1.length c1, .int .i64 ((n + m : Nat) : Int)] wr fun e w' => e = .returned (.int .i64 kf) ∧ DkPost R S1 wr t1 w') := fun S1 wr a1 c1 d => by
    have := jcut_at R S1 t wr 1 a1 x1.length c1 (n + m) ⟨hw.1, by omega⟩ d
    rwa [hc1] at this
  have DK : Hid (∀ w1, Below w.heap.size w w1 → DkAt R S t w1) := fun w1 b1 => h.below b1
  have NS : Hid (∀ g, w.heap.size ≤ g → ¬ S g) := fun g hg hs => by have := hS g hs; omega
  have lnm : n + m ≤ 1000000000000 := by omega
  have lxf : x1.length ≤ 1000000000000 := hl1
  have LX : Hid (n + m ≤ x1.length ∧ x1.length ≤ 1000000000000 ∧ n + m ≤ 1000000000000) := ⟨hnm, lxf, lnm⟩
  clear h hdn b0 hn hb0 hb1 hl0 hl1 hT hx0 hx1 hw hrs hc1 hS HN hle WA hnm lnm lxf
  go_enter Tryd.func33, Tryd.ntmps33
  go_wp2_with fail
  refine RB.out.mono ?_
  rintro e w2 ⟨b2, k2, a0, c0, a1, c1, rfl, r0, r1⟩
  have B2 : Hid (Below w.heap.size w w2 ∧ Blk w.heap.size 34 rcZ w2) := ⟨b2, k2⟩
  have D2 : Hid (RdB w2 (.slice a0 x0.length c0) x0 ∧ RdB w2 (.slice a1 x1.length c1) x1) := ⟨r0, r1⟩
  clear b2 k2 RB r0 r1
  go_upto_region 2 with (first
    | ((with_reducible refine at_store ?_); refine step_store rfl 83 _ _ rfl w2.heap.size 0 83 z2 [.slice a0 x0.length c0, .slice a1 x1.length c1] rfl rfl (Blk.new 83 z2 w2) (Nat.le_refl _) rfl (two_one _ _ _ _ _ _) ?_; intro w3 nb g3; have B3 : Hid (Below w.heap.size w w3 ∧ Blk w.heap.size 34 rcZ w3 ∧ Blk w2.heap.size 83 [.slice a0 x0.length c0, .slice a1 x1.length c1] w3 ∧ Below w2.heap.size w2 w3) := ⟨below_row (below_trans B2.out.1 (below_alloc _ _)) g3 B2.out.1.size, (B2.out.2.old _).grown g3 (by have := B2.out.2.lt; omega), blk_put (Nat.le_refl _) nb, below_row (below_alloc _ _) g3 (Nat.le_refl _)⟩; clear nb g3))
  have N3 : Hid (Calls Tryd.prog 45 #[.agg #[.slice a0 x0.length c0, .slice a1 x1.length c1]] w3 fun e w' => ∃ a c, e = .returned (.tuple #[.int .i64 1, .agg (hdL ep (.slice a sn.length c) n).toArray, .bool true]) ∧ Below w3.heap.size w3 w' ∧ OwnT w3.heap.size w' (.slice a sn.length c) sn) := NW.out a0 c0 a1 c1 w3 B3.out.1 (D2.out.1.later B3.out.2.2.2) (D2.out.2.later B3.out.2.2.2)
  have HB : Hid (w.heap.size < w2.heap.size) := B2.out.2.lt
  clear NW B2
  obtain ⟨P5, hP5⟩ : ∃ P5, w2.heap.size = P5 := ⟨_, rfl⟩
  have D3 : Hid (RdB w3 (.slice a1 x1.length c1) x1) := D2.out.2.later B3.out.2.2.2
  have B3' : Hid (Below w.heap.size w w3 ∧ Blk w.heap.size 34 rcZ w3 ∧ Blk P5 83 [.slice a0 x0.length c0, .slice a1 x1.length c1] w3) := ⟨B3.out.1, B3.out.2.1, hP5 ▸ B3.out.2.2.1⟩
  rw [hP5] at HB ⊢
  clear hP5 D2 B3
  go_wp2_with (refine step_load rfl 83 _ rfl P5 0 rfl [.slice a0 x0.length c0, .slice a1 x1.length c1] _ B3'.out.2.2.all Tryd.underlying83 rfl rfl ?_)
  refine N3.out.mono ?_
  rintro e w4 ⟨a, c, rfl, b4, ow⟩
  have B4 : Hid (Below w.heap.size w w4 ∧ Blk w.heap.size 34 rcZ w4 ∧ Blk P5 83 [.slice a0 x0.length c0, .slice a1 x1.length c1] w4 ∧ OwnT (w.heap.size + 1) w4 (.slice a sn.length c) sn ∧ RdB w4 (.slice a1 x1.length c1) x1 ∧ (∀ g, (Value.slice a1 x1.length c1).ownBlock = some g → True)) := ⟨below_trans B3'.out.1 b4, B3'.out.2.1.below b4, B3'.out.2.2.below b4, ow.mono (by have := B3'.out.2.1.lt; omega), D3.out.later b4, fun _ _ => trivial⟩
  clear b4 B3' N3 ow D3
  go_upto_region 7 with (first
    | ((with_reducible refine at_store ?_); refine step_store rfl 88 _ _ rfl w4.heap.size 0 88 hdZ (hdL ep (.slice a sn.length c) n) rfl rfl (Blk.new 88 hdZ w4) (Nat.le_refl _) rfl (hdL_one _ _ _ _ _) ?_; intro w5 nb g5; have B5 : Hid (Below w.heap.size w w5 ∧ Blk w.heap.size 34 rcZ w5 ∧ Blk P5 83 [.slice a0 x0.length c0, .slice a1 x1.length c1] w5 ∧ Blk w4.heap.size 88 (hdL ep (.slice a sn.length c) n) w5 ∧ OwnT (w.heap.size + 1) w5 (.slice a sn.length c) sn ∧ RdB w5 (.slice a1 x1.length c1) x1 ∧ w.heap.size < w4.heap.size) := ⟨below_row (below_trans B4.out.1 (below_alloc _ _)) g5 B4.out.1.size, (B4.out.2.1.old _).grown g5 (by have := B4.out.2.1.lt; omega), (B4.out.2.2.1.old _).grown g5 (by have := B4.out.2.2.1.lt; omega), blk_put (Nat.le_refl _) nb, (B4.out.2.2.2.1.later (below_alloc _ _)).kept g5 (fun g' hg' e' => by injection e' with e'; have := B4.out.2.2.2.1.block_lt hg'; omega), B4.out.2.2.2.2.1.later (below_row (below_alloc _ _) g5 (Nat.le_refl _)), B4.out.2.1.lt⟩; clear nb g5 B4))
  obtain ⟨P8, hP8⟩ : ∃ P8, w4.heap.size = P8 := ⟨_, rfl⟩
  rw [hP8] at B5 ⊢
  clear hP8
  have HP8 : Hid (w.heap.size < P8) := B5.out.2.2.2.2.2.2
  refine wp_region_held_drew (S := fun w' => Blk P5 83 [.slice a0 x0.length c0, .slice a1 x1.length c1] w' ∧ Blk P8 88 (hdL ep (.slice a sn.length c) n) w') (by kernel_rfl) (⟨B5.out.2.2.1.below (Below.drew (Below.refl _ _)), B5.out.2.2.2.1.below (Below.drew (Below.refl _ _))⟩) (fun hH => ?_)
  refine wpAnyH_take (i := 0) (oi := { dst := some 35, op := Op.move (Operand.tmp 7), type := 3, pos := "recover.go:33", after := #[], guard := none }) (v := .int .i64 1) rfl (by kernel_rfl) (by kernel_rfl) (by kernel_rfl) (fun _ _ _ h => h) (Or.inl ⟨by rfl, fun w' hs => by go_simp⟩) hH ?_
  try simp only [Act.put, List.setIfInBounds_toArray, List.set_cons_zero, List.set_cons_succ]
  refine wpAnyH_take (i := 1) (oi := { dst := some 36, op := Op.indexAddr 83 (Operand.tmp 5) (Operand.tmp 35), type := 0, pos := "recover.go:33", after := #[{ on := 0, ground := Ground.data }], guard := none }) (v := .pointer (some ⟨P5, 1, none⟩)) rfl (by kernel_rfl) (by kernel_rfl) (by kernel_rfl) (fun _ _ _ h => h) (Or.inl ⟨by rfl, fun w' hs => by go_simp⟩) hH ?_
  try simp only [Act.put, List.setIfInBounds_toArray, List.set_cons_zero, List.set_cons_succ]
  refine wpAnyH_take (i := 2) (oi := { dst := some 37, op := Op.load 22 (Operand.tmp 36), type := 22, pos := "recover.go:33", after := #[{ on := 1, ground := Ground.data }], guard := none }) (v := .slice a1 x1.length c1) rfl (by kernel_rfl) (by kernel_rfl) (by kernel_rfl) (fun _ _ _ h => h) (Or.inl ⟨by rfl, fun w' hs => by have c := hs.1.cell 1 _ rfl; go_simp⟩) hH ?_
  try simp only [Act.put, List.setIfInBounds_toArray, List.set_cons_zero, List.set_cons_succ]
  refine wpAnyH_take (i := 3) (oi := { dst := some 38, op := Op.fieldAddr 88 (Operand.tmp 8) 2, type := 0, pos := "recover.go:33", after := #[], guard := none }) (v := .pointer (some ⟨P8, 2, none⟩)) rfl (by kernel_rfl) (by kernel_rfl) (by kernel_rfl) (fun _ _ _ h => h) (Or.inl ⟨by rfl, fun w' hs => by go_simp⟩) hH ?_
  try simp only [Act.put, List.setIfInBounds_toArray, List.set_cons_zero, List.set_cons_succ]
  refine wpAnyH_take (i := 4) (oi := { dst := some 39, op := Op.load 3 (Operand.tmp 38), type := 3, pos := "recover.go:33", after := #[{ on := 3, ground := Ground.data }], guard := none }) (v := .int .i64 (n : Int)) rfl (by kernel_rfl) (by kernel_rfl) (by kernel_rfl) (fun _ _ _ h => h) (Or.inl ⟨by rfl, fun w' hs => by have c := hs.2.cell 2 _ rfl; go_simp⟩) hH ?_
  try simp only [Act.put, List.setIfInBounds_toArray, List.set_cons_zero, List.set_cons_succ]
  refine wpAnyH_ready (rs := [5]) (by kernel_rfl) (by simp) ?_
  refine AllReadyH.cons (o := { dst := some 40, op := Op.call { callee := Callee.value (Operand.func 46), args := #[Operand.tmp 37, Operand.tmp 39], argTypes := #[22, 3] }, type := 91, pos := "recover.go:33", after := #[{ on := 2, ground := Ground.data }, { on := 4, ground := Ground.data }], guard := none }) rfl (fun K hK => ?_) AllReadyH.nil
  go_simp
  refine (RR.out _ _ _ (Below.drew B5.out.1) (B5.out.2.2.2.2.2.1.later (Below.drew (Below.refl _ _)))).mono ?_
  rintro e w6 ⟨ar, cr, rfl, t6, b6⟩
  have bb6 : Below w5.heap.size w5 w6 := below_trans (Below.drew (Below.refl _ _)) b6
  have B6 : Hid (Below w.heap.size w w6 ∧ Blk w.heap.size 34 rcZ w6 ∧ Blk P5 83 [.slice a0 x0.length c0, .slice a1 x1.length c1] w6 ∧ Blk P8 88 (hdL ep (.slice a sn.length c) n) w6 ∧ OwnT (w.heap.size + 1) w6 (.slice a sn.length c) sn ∧ TlsV (w.heap.size + 1) w6 (.slice ar rs.length cr) rs) := ⟨below_trans B5.out.1 bb6, B5.out.2.1.below bb6, B5.out.2.2.1.below bb6, B5.out.2.2.2.1.below bb6, B5.out.2.2.2.2.1.later bb6, t6.mono B5.out.2.1.lt⟩
  clear t6 b6 bb6
  refine hK.out _ _ ⟨B6.out.2.2.1, B6.out.2.2.2.1⟩ (fun hH => ?_)
  refine wpAnyH_take (i := 6) (oi := { dst := some 34, op := Op.move (Operand.tmp 40), type := 91, pos := "recover.go:33", after := #[{ on := 5, ground := Ground.data }], guard := none }) (v := .tuple #[(.slice ar rs.length cr), .int .i64 ((n + m : Nat) : Int)]) rfl (by kernel_rfl) (by kernel_rfl) (by kernel_rfl) (fun _ _ _ h => h) (Or.inl ⟨by rfl, fun w' hs => by go_simp⟩) hH ?_
  try simp only [Act.put, List.setIfInBounds_toArray, List.set_cons_zero, List.set_cons_succ]
  refine wpAnyH_take (i := 7) (oi := { dst := some 41, op := Op.extract (Operand.tmp 34) 0, type := 32, pos := "recover.go:33", after := #[{ on := 6, ground := Ground.data }], guard := none }) (v := (.slice ar rs.length cr)) rfl (by kernel_rfl) (by kernel_rfl) (by kernel_rfl) (fun _ _ _ h => h) (Or.inl ⟨by rfl, fun w' hs => by go_simp⟩) hH ?_
  try simp only [Act.put, List.setIfInBounds_toArray, List.set_cons_zero, List.set_cons_succ]
  refine wpAnyH_take (i := 8) (oi := { dst := some 42, op := Op.extract (Operand.tmp 34) 1, type := 3, pos := "recover.go:33", after := #[{ on := 6, ground := Ground.data }, { on := 9, ground := Ground.gcOnly Departure.lateStores }], guard := none }) (v := .int .i64 ((n + m : Nat) : Int)) rfl (by kernel_rfl) (by kernel_rfl) (by kernel_rfl) (fun _ _ _ h => h) (Or.inl ⟨by rfl, fun w' hs => by go_simp⟩) hH ?_
  try simp only [Act.put, List.setIfInBounds_toArray, List.set_cons_zero, List.set_cons_succ]
  refine wpAnyH_take (i := 9) (oi := { dst := some 10, op := Op.assign (Operand.tmp 41), type := 32, pos := "recover.go:33", after := #[{ on := 7, ground := Ground.data }, { on := 5, ground := Ground.chain }, { on := 0, ground := Ground.phase }, { on := 1, ground := Ground.phase }, { on := 2, ground := Ground.phase }, { on := 3, ground := Ground.phase }, { on := 4, ground := Ground.phase }, { on := 5, ground := Ground.phase }, { on := 6, ground := Ground.phase }, { on := 7, ground := Ground.phase }, { on := 8, ground := Ground.textOnly Departure.lateStores }], guard := none }) (v := (.slice ar rs.length cr)) rfl (by kernel_rfl) (by kernel_rfl) (by kernel_rfl) (fun _ _ _ h => h) (Or.inl ⟨by rfl, fun w' hs => by go_simp⟩) hH ?_
  try simp only [Act.put, List.setIfInBounds_toArray, List.set_cons_zero, List.set_cons_succ]
  refine wpAnyH_take (i := 10) (oi := { dst := some 11, op := Op.assign (Operand.tmp 42), type := 3, pos := "recover.go:33", after := #[{ on := 8, ground := Ground.data }, { on := 9, ground := Ground.chain }, { on := 0, ground := Ground.phase }, { on := 1, ground := Ground.phase }, { on := 2, ground := Ground.phase }, { on := 3, ground := Ground.phase }, { on := 4, ground := Ground.phase }, { on := 5, ground := Ground.phase }, { on := 6, ground := Ground.phase }, { on := 7, ground := Ground.phase }, { on := 8, ground := Ground.phase }, { on := 9, ground := Ground.phase }], guard := none }) (v := .int .i64 ((n + m : Nat) : Int)) rfl (by kernel_rfl) (by kernel_rfl) (by kernel_rfl) (fun _ _ _ h => h) (Or.inl ⟨by rfl, fun w' hs => by go_simp⟩) hH ?_
  try simp only [Act.put, List.setIfInBounds_toArray, List.set_cons_zero, List.set_cons_succ]
  refine wpAnyH_done (by kernel_rfl) ?_ _
  clear hH hK B5 RR
  have y5 := B6.out.2.2.1.cell 1 _ rfl
  have C1' : Hid (Calls Tryd.prog 44 #[stV R, .int .i64 1, .slice a1 x1.length c1, .int .i64 ((n + m : Nat) : Int)] w6 fun e w' => e = .returned (.int .i64 kf) ∧ DkPost R S w6 t1 w') := C1.out S w6 _ _ (DK.out w6 B6.out.1)
  clear C1 DK
  obtain ⟨k, hk⟩ : ∃ k, n + m = k := ⟨_, rfl⟩
  rw [hk] at C1' LX ⊢
  have HK : Hid (n + m = k) := hk
  clear hk
  go_wp2_with fail
  refine C1'.out.mono ?_
  rintro e w7 ⟨rfl, S1, D7, G7, K7⟩
  clear C1'
  have NH : Hid (¬ S1 w.heap.size) := fun hs => (G7 _ hs).elim (NS.out _ (Nat.le_refl _)) (fun h => by have := B6.out.2.1.lt; omega)
  have BX : Hid (Blk w.heap.size 34 rcZ w7 ∧ DkAt R S1 t1 w7 ∧ (∀ g, S1 g → S g ∨ w.heap.size ≤ g) ∧ Kp S w w7) := ⟨B6.out.2.1.kp K7 (NS.out _ (Nat.le_refl _)), D7, fun g hg => (G7 g hg).imp id (fun h => Nat.le_trans B6.out.1.size h), (Kp.of_below B6.out.1 S).trans K7 (fun _ _ h => h)⟩
  clear D7 G7 K7 B6
  go_wp2_with ((with_reducible refine at_store ?_); refine step_store rfl 34 _ _ rfl w.heap.size 0 34 rcZ rcZ rfl rfl BX.out.1 (Nat.le_refl _) rfl rcZ_one ?_; intro wY nb gY; have BY : Hid (Blk w.heap.size 34 rcZ wY ∧ Kp (fun g => g = w.heap.size) w7 wY) := ⟨blk_put (Nat.le_refl _) nb, (Kp.of_grown gY).mono (fun g _ e => by injection e with e; exact e.symm)⟩; clear nb gY)
  refine ret_tmp_blk_tmp rfl rfl w.heap.size 34 rcZ _ rfl BY.out.1 Tryd.underlying34 rfl rfl ?_
  obtain ⟨v1, v2, v3, v4⟩ := BX.out
  exact ⟨rfl, S1, v2.kp BY.out.2 (fun g hg e => NH.out (e ▸ hg)), v3, v4.trans BY.out.2 (fun g hg e => by omega)⟩

set_option maxRecDepth 100000 in
set_option maxHeartbeats 2000000 in
theorem recovered_fb1 (R : Nat) (S : Nat → Prop) (t t1 t2 : Dk) (kf : Int) (x0 x1 : List Nat) (ep n m : Nat) (sn : List Nat) (rs : List (List Nat)) (w : World) (hx0 : t.b0 = x0) (hx1 : t.b1 = x1) (hw : 0 ≤ t.wr ∧ t.wr < 1152921504606846976) (hdn : t.dn = false) (hn : newest x0 x1 = some (1, ep, sn, n)) (hrs : recs (x1.drop n) = (rs, m)) (hc1 : t.cut 1 x1.length (n + m) = (t1, 0)) (hc2 : t1.cut 0 x0.length 0 = (t2, kf)) (hkf : kf ≠ 0)
    (hnm : n + m ≤ x1.length) (h : DkAt R S t w) (hS : ∀ g, S g → g < w.heap.size) (hb0 : ∀ b ∈ x0, b < 256) (hb1 : ∀ b ∈ x1, b < 256) (hl0 : x0.length ≤ 1000000000000) (hl1 : x1.length ≤ 1000000000000) (hT : TabS w) :
    Calls Tryd.prog 33 #[stV R] w fun e w' => e = .returned (.tuple #[.pointer none, .agg rcZ.toArray, .int .i64 kf]) ∧ DkPost R S w t2 w' := by
  have b0 : Below w.heap.size w (w.alloc (.cells rcZ.toArray 34)) := below_alloc _ _
  have RB : Hid (Calls Tryd.prog 43 #[stV R] (w.alloc (.cells #[.int .i64 0, .slice none 0 0, .slice none 0 0, .int .i64 0] 34)) fun e w' => Below w.heap.size w w' ∧ Blk w.heap.size 34 rcZ w' ∧ ∃ a0 c0 a1 c1, e = .returned (.tuple #[.agg #[.slice a0 x0.length c0, .slice a1 x1.length c1], .int .i64 0]) ∧ RdB w' (.slice a0 x0.length c0) x0 ∧ RdB w' (.slice a1 x1.length c1) x1) := (readBoth_at R S t (w.alloc (.cells rcZ.toArray 34)) (h.below b0)).mono fun e w' ⟨h1, h2⟩ => ⟨below_trans b0 (h1.mono (by simp)), (Blk.new 34 rcZ w).below h1, by
    rw [if_neg (by rw [hdn]; decide), hx0, hx1] at h2
    obtain ⟨a0, c0, a1, c1, e, r0, r1⟩ := h2
    exact ⟨a0, c0, a1, c1, e, RowV.rd r0, RowV.rd r1⟩⟩
  have NW : Hid (∀ a0 c0 a1 c1 w3, Below w.heap.size w w3 → RdB w3 (.slice a0 x0.length c0) x0 → RdB w3 (.slice a1 x1.length c1) x1 → Calls Tryd.prog 45 #[.agg #[.slice a0 x0.length c0, .slice a1 x1.length c1]] w3 fun e w' => ∃ a c, e = .returned (.tuple #[.int .i64 1, .agg (hdL ep (.slice a sn.length c) n).toArray, .bool true]) ∧ Below w3.heap.size w3 w' ∧ OwnT w3.heap.size w' (.slice a sn.length c) sn) := fun a0 c0 a1 c1 w3 b3 r0 r1 => (newest_at x0 x1 a0 a1 c0 c1 w3 hb0 hb1 hl0 hl1 r0 r1 (hT.below b3)).mono fun e w' ⟨h1, hv, h2, h3⟩ => by
    rw [hn] at h2 h3
    obtain ⟨a, c, rfl, ow⟩ := h3
    exact ⟨a, c, h2, h1, ow⟩
  have HN := newest_some hn
  have hle : n ≤ x1.length ∧ 1 ≤ ep ∧ ep ≤ 9223372036854775807 := by
    rcases HN with ⟨_, e⟩ | ⟨_, e⟩
    · first | exact hdF_le e | omega
    · first | exact hdF_le e | omega
  have RR : Hid (∀ a1 c1 w', Below w.heap.size w w' → RdB w' (.slice a1 x1.length c1) x1 → Calls Tryd.prog 46 #[.slice a1 x1.length c1, .int .i64 (n : Int)] w' (RcAns w' n (rs, m))) := fun a1 c1 w' b1 r1 => by
    have := readRecords_at x1 n (.slice a1 x1.length c1) w' hle.1 hb1 hl1 r1 (hT.below b1)
    rwa [hrs] at this
  have dkf : (kf != 0) = true := bne_iff_ne.2 hkf
  clear hkf
  have WA := cut_wr t 1 x1.length (n + m)
  rw [hc1] at WA
  have C1 : Hid (∀ S1 wr a1 c1, DkAt R S1 t wr → Calls Tryd.prog 44 #[stV R, .int .i64 1, .slice a1 x1.length c1, .int .i64 ((n + m : Nat) : Int)] wr fun e w' => e = .returned (.int .i64 0) ∧ DkPost R S1 wr t1 w') := fun S1 wr a1 c1 d => by
    have := jcut_at R S1 t wr 1 a1 x1.length c1 (n + m) ⟨hw.1, by omega⟩ d
    rwa [hc1] at this
  have C2 : Hid (∀ S1 wr a1 c1, DkAt R S1 t1 wr → Calls Tryd.prog 44 #[stV R, .int .i64 0, .slice a1 x0.length c1, .int .i64 0] wr fun e w' => e = .returned (.int .i64 kf) ∧ DkPost R S1 wr t2 w') := fun S1 wr a1 c1 d => by
    have := jcut_at R S1 t1 wr 0 a1 x0.length c1 0 ⟨by simp at WA; omega, by simp at WA; omega⟩ d
    rwa [hc2] at this
  have OT : Hid (∀ w1, Calls Tryd.prog 38 #[.int .i64 1] w1 fun e w' => e = .returned (.int .i64 0) ∧ w1 = w') := fun w1 => (other_at 1 (by omega) w1).mono fun e w' h => ⟨h.1, h.2.symm⟩
  have DK : Hid (∀ w1, Below w.heap.size w w1 → DkAt R S t w1) := fun w1 b1 => h.below b1
  have NS : Hid (∀ g, w.heap.size ≤ g → ¬ S g) := fun g hg hs => by have := hS g hs; omega
  have lnm : n + m ≤ 1000000000000 := by omega
  have lxf : x1.length ≤ 1000000000000 := hl1
  have LX : Hid (n + m ≤ x1.length ∧ x1.length ≤ 1000000000000 ∧ n + m ≤ 1000000000000) := ⟨hnm, lxf, lnm⟩
  clear h hdn b0 hn hb0 hb1 hl0 hl1 hT hx0 hx1 hw hrs hc1 hc2 hS HN hle WA hnm lnm lxf
  go_enter Tryd.func33, Tryd.ntmps33
  go_wp2_with fail
  refine RB.out.mono ?_
  rintro e w2 ⟨b2, k2, a0, c0, a1, c1, rfl, r0, r1⟩
  have B2 : Hid (Below w.heap.size w w2 ∧ Blk w.heap.size 34 rcZ w2) := ⟨b2, k2⟩
  have D2 : Hid (RdB w2 (.slice a0 x0.length c0) x0 ∧ RdB w2 (.slice a1 x1.length c1) x1) := ⟨r0, r1⟩
  clear b2 k2 RB r0 r1
  go_upto_region 2 with (first
    | ((with_reducible refine at_store ?_); refine step_store rfl 83 _ _ rfl w2.heap.size 0 83 z2 [.slice a0 x0.length c0, .slice a1 x1.length c1] rfl rfl (Blk.new 83 z2 w2) (Nat.le_refl _) rfl (two_one _ _ _ _ _ _) ?_; intro w3 nb g3; have B3 : Hid (Below w.heap.size w w3 ∧ Blk w.heap.size 34 rcZ w3 ∧ Blk w2.heap.size 83 [.slice a0 x0.length c0, .slice a1 x1.length c1] w3 ∧ Below w2.heap.size w2 w3) := ⟨below_row (below_trans B2.out.1 (below_alloc _ _)) g3 B2.out.1.size, (B2.out.2.old _).grown g3 (by have := B2.out.2.lt; omega), blk_put (Nat.le_refl _) nb, below_row (below_alloc _ _) g3 (Nat.le_refl _)⟩; clear nb g3))
  have N3 : Hid (Calls Tryd.prog 45 #[.agg #[.slice a0 x0.length c0, .slice a1 x1.length c1]] w3 fun e w' => ∃ a c, e = .returned (.tuple #[.int .i64 1, .agg (hdL ep (.slice a sn.length c) n).toArray, .bool true]) ∧ Below w3.heap.size w3 w' ∧ OwnT w3.heap.size w' (.slice a sn.length c) sn) := NW.out a0 c0 a1 c1 w3 B3.out.1 (D2.out.1.later B3.out.2.2.2) (D2.out.2.later B3.out.2.2.2)
  have HB : Hid (w.heap.size < w2.heap.size) := B2.out.2.lt
  clear NW B2
  obtain ⟨P5, hP5⟩ : ∃ P5, w2.heap.size = P5 := ⟨_, rfl⟩
  have D3 : Hid (RdB w3 (.slice a1 x1.length c1) x1) := D2.out.2.later B3.out.2.2.2
  have B3' : Hid (Below w.heap.size w w3 ∧ Blk w.heap.size 34 rcZ w3 ∧ Blk P5 83 [.slice a0 x0.length c0, .slice a1 x1.length c1] w3) := ⟨B3.out.1, B3.out.2.1, hP5 ▸ B3.out.2.2.1⟩
  rw [hP5] at HB ⊢
  clear hP5 D2 B3
  go_wp2_with (refine step_load rfl 83 _ rfl P5 0 rfl [.slice a0 x0.length c0, .slice a1 x1.length c1] _ B3'.out.2.2.all Tryd.underlying83 rfl rfl ?_)
  refine N3.out.mono ?_
  rintro e w4 ⟨a, c, rfl, b4, ow⟩
  have B4 : Hid (Below w.heap.size w w4 ∧ Blk w.heap.size 34 rcZ w4 ∧ Blk P5 83 [.slice a0 x0.length c0, .slice a1 x1.length c1] w4 ∧ OwnT (w.heap.size + 1) w4 (.slice a sn.length c) sn ∧ RdB w4 (.slice a1 x1.length c1) x1 ∧ (∀ g, (Value.slice a1 x1.length c1).ownBlock = some g → True)) := ⟨below_trans B3'.out.1 b4, B3'.out.2.1.below b4, B3'.out.2.2.below b4, ow.mono (by have := B3'.out.2.1.lt; omega), D3.out.later b4, fun _ _ => trivial⟩
  clear b4 B3' N3 ow D3
  go_upto_region 7 with (first
    | ((with_reducible refine at_store ?_); refine step_store rfl 88 _ _ rfl w4.heap.size 0 88 hdZ (hdL ep (.slice a sn.length c) n) rfl rfl (Blk.new 88 hdZ w4) (Nat.le_refl _) rfl (hdL_one _ _ _ _ _) ?_; intro w5 nb g5; have B5 : Hid (Below w.heap.size w w5 ∧ Blk w.heap.size 34 rcZ w5 ∧ Blk P5 83 [.slice a0 x0.length c0, .slice a1 x1.length c1] w5 ∧ Blk w4.heap.size 88 (hdL ep (.slice a sn.length c) n) w5 ∧ OwnT (w.heap.size + 1) w5 (.slice a sn.length c) sn ∧ RdB w5 (.slice a1 x1.length c1) x1 ∧ w.heap.size < w4.heap.size) := ⟨below_row (below_trans B4.out.1 (below_alloc _ _)) g5 B4.out.1.size, (B4.out.2.1.old _).grown g5 (by have := B4.out.2.1.lt; omega), (B4.out.2.2.1.old _).grown g5 (by have := B4.out.2.2.1.lt; omega), blk_put (Nat.le_refl _) nb, (B4.out.2.2.2.1.later (below_alloc _ _)).kept g5 (fun g' hg' e' => by injection e' with e'; have := B4.out.2.2.2.1.block_lt hg'; omega), B4.out.2.2.2.2.1.later (below_row (below_alloc _ _) g5 (Nat.le_refl _)), B4.out.2.1.lt⟩; clear nb g5 B4))
  obtain ⟨P8, hP8⟩ : ∃ P8, w4.heap.size = P8 := ⟨_, rfl⟩
  rw [hP8] at B5 ⊢
  clear hP8
  have HP8 : Hid (w.heap.size < P8) := B5.out.2.2.2.2.2.2
  refine wp_region_held_drew (S := fun w' => Blk P5 83 [.slice a0 x0.length c0, .slice a1 x1.length c1] w' ∧ Blk P8 88 (hdL ep (.slice a sn.length c) n) w') (by kernel_rfl) (⟨B5.out.2.2.1.below (Below.drew (Below.refl _ _)), B5.out.2.2.2.1.below (Below.drew (Below.refl _ _))⟩) (fun hH => ?_)
  refine wpAnyH_take (i := 0) (oi := { dst := some 35, op := Op.move (Operand.tmp 7), type := 3, pos := "recover.go:33", after := #[], guard := none }) (v := .int .i64 1) rfl (by kernel_rfl) (by kernel_rfl) (by kernel_rfl) (fun _ _ _ h => h) (Or.inl ⟨by rfl, fun w' hs => by go_simp⟩) hH ?_
  try simp only [Act.put, List.setIfInBounds_toArray, List.set_cons_zero, List.set_cons_succ]
  refine wpAnyH_take (i := 1) (oi := { dst := some 36, op := Op.indexAddr 83 (Operand.tmp 5) (Operand.tmp 35), type := 0, pos := "recover.go:33", after := #[{ on := 0, ground := Ground.data }], guard := none }) (v := .pointer (some ⟨P5, 1, none⟩)) rfl (by kernel_rfl) (by kernel_rfl) (by kernel_rfl) (fun _ _ _ h => h) (Or.inl ⟨by rfl, fun w' hs => by go_simp⟩) hH ?_
  try simp only [Act.put, List.setIfInBounds_toArray, List.set_cons_zero, List.set_cons_succ]
  refine wpAnyH_take (i := 2) (oi := { dst := some 37, op := Op.load 22 (Operand.tmp 36), type := 22, pos := "recover.go:33", after := #[{ on := 1, ground := Ground.data }], guard := none }) (v := .slice a1 x1.length c1) rfl (by kernel_rfl) (by kernel_rfl) (by kernel_rfl) (fun _ _ _ h => h) (Or.inl ⟨by rfl, fun w' hs => by have c := hs.1.cell 1 _ rfl; go_simp⟩) hH ?_
  try simp only [Act.put, List.setIfInBounds_toArray, List.set_cons_zero, List.set_cons_succ]
  refine wpAnyH_take (i := 3) (oi := { dst := some 38, op := Op.fieldAddr 88 (Operand.tmp 8) 2, type := 0, pos := "recover.go:33", after := #[], guard := none }) (v := .pointer (some ⟨P8, 2, none⟩)) rfl (by kernel_rfl) (by kernel_rfl) (by kernel_rfl) (fun _ _ _ h => h) (Or.inl ⟨by rfl, fun w' hs => by go_simp⟩) hH ?_
  try simp only [Act.put, List.setIfInBounds_toArray, List.set_cons_zero, List.set_cons_succ]
  refine wpAnyH_take (i := 4) (oi := { dst := some 39, op := Op.load 3 (Operand.tmp 38), type := 3, pos := "recover.go:33", after := #[{ on := 3, ground := Ground.data }], guard := none }) (v := .int .i64 (n : Int)) rfl (by kernel_rfl) (by kernel_rfl) (by kernel_rfl) (fun _ _ _ h => h) (Or.inl ⟨by rfl, fun w' hs => by have c := hs.2.cell 2 _ rfl; go_simp⟩) hH ?_
  try simp only [Act.put, List.setIfInBounds_toArray, List.set_cons_zero, List.set_cons_succ]
  refine wpAnyH_ready (rs := [5]) (by kernel_rfl) (by simp) ?_
  refine AllReadyH.cons (o := { dst := some 40, op := Op.call { callee := Callee.value (Operand.func 46), args := #[Operand.tmp 37, Operand.tmp 39], argTypes := #[22, 3] }, type := 91, pos := "recover.go:33", after := #[{ on := 2, ground := Ground.data }, { on := 4, ground := Ground.data }], guard := none }) rfl (fun K hK => ?_) AllReadyH.nil
  go_simp
  refine (RR.out _ _ _ (Below.drew B5.out.1) (B5.out.2.2.2.2.2.1.later (Below.drew (Below.refl _ _)))).mono ?_
  rintro e w6 ⟨ar, cr, rfl, t6, b6⟩
  have bb6 : Below w5.heap.size w5 w6 := below_trans (Below.drew (Below.refl _ _)) b6
  have B6 : Hid (Below w.heap.size w w6 ∧ Blk w.heap.size 34 rcZ w6 ∧ Blk P5 83 [.slice a0 x0.length c0, .slice a1 x1.length c1] w6 ∧ Blk P8 88 (hdL ep (.slice a sn.length c) n) w6 ∧ OwnT (w.heap.size + 1) w6 (.slice a sn.length c) sn ∧ TlsV (w.heap.size + 1) w6 (.slice ar rs.length cr) rs) := ⟨below_trans B5.out.1 bb6, B5.out.2.1.below bb6, B5.out.2.2.1.below bb6, B5.out.2.2.2.1.below bb6, B5.out.2.2.2.2.1.later bb6, t6.mono B5.out.2.1.lt⟩
  clear t6 b6 bb6
  refine hK.out _ _ ⟨B6.out.2.2.1, B6.out.2.2.2.1⟩ (fun hH => ?_)
  refine wpAnyH_take (i := 6) (oi := { dst := some 34, op := Op.move (Operand.tmp 40), type := 91, pos := "recover.go:33", after := #[{ on := 5, ground := Ground.data }], guard := none }) (v := .tuple #[(.slice ar rs.length cr), .int .i64 ((n + m : Nat) : Int)]) rfl (by kernel_rfl) (by kernel_rfl) (by kernel_rfl) (fun _ _ _ h => h) (Or.inl ⟨by rfl, fun w' hs => by go_simp⟩) hH ?_
  try simp only [Act.put, List.setIfInBounds_toArray, List.set_cons_zero, List.set_cons_succ]
  refine wpAnyH_take (i := 7) (oi := { dst := some 41, op := Op.extract (Operand.tmp 34) 0, type := 32, pos := "recover.go:33", after := #[{ on := 6, ground := Ground.data }], guard := none }) (v := (.slice ar rs.length cr)) rfl (by kernel_rfl) (by kernel_rfl) (by kernel_rfl) (fun _ _ _ h => h) (Or.inl ⟨by rfl, fun w' hs => by go_simp⟩) hH ?_
  try simp only [Act.put, List.setIfInBounds_toArray, List.set_cons_zero, List.set_cons_succ]
  refine wpAnyH_take (i := 8) (oi := { dst := some 42, op := Op.extract (Operand.tmp 34) 1, type := 3, pos := "recover.go:33", after := #[{ on := 6, ground := Ground.data }, { on := 9, ground := Ground.gcOnly Departure.lateStores }], guard := none }) (v := .int .i64 ((n + m : Nat) : Int)) rfl (by kernel_rfl) (by kernel_rfl) (by kernel_rfl) (fun _ _ _ h => h) (Or.inl ⟨by rfl, fun w' hs => by go_simp⟩) hH ?_
  try simp only [Act.put, List.setIfInBounds_toArray, List.set_cons_zero, List.set_cons_succ]
  refine wpAnyH_take (i := 9) (oi := { dst := some 10, op := Op.assign (Operand.tmp 41), type := 32, pos := "recover.go:33", after := #[{ on := 7, ground := Ground.data }, { on := 5, ground := Ground.chain }, { on := 0, ground := Ground.phase }, { on := 1, ground := Ground.phase }, { on := 2, ground := Ground.phase }, { on := 3, ground := Ground.phase }, { on := 4, ground := Ground.phase }, { on := 5, ground := Ground.phase }, { on := 6, ground := Ground.phase }, { on := 7, ground := Ground.phase }, { on := 8, ground := Ground.textOnly Departure.lateStores }], guard := none }) (v := (.slice ar rs.length cr)) rfl (by kernel_rfl) (by kernel_rfl) (by kernel_rfl) (fun _ _ _ h => h) (Or.inl ⟨by rfl, fun w' hs => by go_simp⟩) hH ?_
  try simp only [Act.put, List.setIfInBounds_toArray, List.set_cons_zero, List.set_cons_succ]
  refine wpAnyH_take (i := 10) (oi := { dst := some 11, op := Op.assign (Operand.tmp 42), type := 3, pos := "recover.go:33", after := #[{ on := 8, ground := Ground.data }, { on := 9, ground := Ground.chain }, { on := 0, ground := Ground.phase }, { on := 1, ground := Ground.phase }, { on := 2, ground := Ground.phase }, { on := 3, ground := Ground.phase }, { on := 4, ground := Ground.phase }, { on := 5, ground := Ground.phase }, { on := 6, ground := Ground.phase }, { on := 7, ground := Ground.phase }, { on := 8, ground := Ground.phase }, { on := 9, ground := Ground.phase }], guard := none }) (v := .int .i64 ((n + m : Nat) : Int)) rfl (by kernel_rfl) (by kernel_rfl) (by kernel_rfl) (fun _ _ _ h => h) (Or.inl ⟨by rfl, fun w' hs => by go_simp⟩) hH ?_
  try simp only [Act.put, List.setIfInBounds_toArray, List.set_cons_zero, List.set_cons_succ]
  refine wpAnyH_done (by kernel_rfl) ?_ _
  clear hH hK B5 RR
  have y5 := B6.out.2.2.1.cell 1 _ rfl
  have C1' : Hid (Calls Tryd.prog 44 #[stV R, .int .i64 1, .slice a1 x1.length c1, .int .i64 ((n + m : Nat) : Int)] w6 fun e w' => e = .returned (.int .i64 0) ∧ DkPost R S w6 t1 w') := C1.out S w6 _ _ (DK.out w6 B6.out.1)
  clear C1 DK
  obtain ⟨k, hk⟩ : ∃ k, n + m = k := ⟨_, rfl⟩
  rw [hk] at C1' LX ⊢
  have HK : Hid (n + m = k) := hk
  clear hk
  go_wp2_with fail
  refine C1'.out.mono ?_
  rintro e w7 ⟨rfl, S1, D7, G7, K7⟩
  have K5 : Blk P5 83 [.slice a0 x0.length c0, .slice a1 x1.length c1] w7 := B6.out.2.2.1.kp K7 (NS.out P5 (by have := HB.out; omega))
  have y6 := K5.cell 0 _ rfl
  have C2' : Hid (Calls Tryd.prog 44 #[stV R, .int .i64 0, .slice a0 x0.length c0, .int .i64 0] w7 fun e w' => e = .returned (.int .i64 kf) ∧ DkPost R S1 w7 t2 w') := C2.out S1 w7 _ _ D7
  have GG : Hid ((∀ g, S1 g → S g ∨ w6.heap.size ≤ g) ∧ Kp S w6 w7) := ⟨G7, K7⟩
  clear D7 G7 K7 K5 C2 y5 C1'
  go_wp2_with fail
  refine (OT.out _).mono ?_
  rintro e w' ⟨rfl, rfl⟩
  go_wp2_with fail
  refine (OT.out _).mono ?_
  rintro e w' ⟨rfl, rfl⟩
  go_wp2_with fail
  refine C2'.out.mono ?_
  rintro e w8 ⟨rfl, p8⟩
  obtain ⟨S2, D8, G8, K8⟩ := DkPost.trans GG.out.1 GG.out.2 p8
  clear p8 GG C2' y6 OT
  have NH : Hid (¬ S2 w.heap.size) := fun hs => (G8 _ hs).elim (NS.out _ (Nat.le_refl _)) (fun h => by have := B6.out.2.1.lt; omega)
  have BX : Hid (Blk w.heap.size 34 rcZ w8 ∧ DkAt R S2 t2 w8 ∧ (∀ g, S2 g → S g ∨ w.heap.size ≤ g) ∧ Kp S w w8) := ⟨B6.out.2.1.kp K8 (NS.out _ (Nat.le_refl _)), D8, fun g hg => (G8 g hg).imp id (fun h => Nat.le_trans B6.out.1.size h), (Kp.of_below B6.out.1 S).trans K8 (fun _ _ h => h)⟩
  clear D8 G8 K8 B6
  go_wp2_with ((with_reducible refine at_store ?_); refine step_store rfl 34 _ _ rfl w.heap.size 0 34 rcZ rcZ rfl rfl BX.out.1 (Nat.le_refl _) rfl rcZ_one ?_; intro wY nb gY; have BY : Hid (Blk w.heap.size 34 rcZ wY ∧ Kp (fun g => g = w.heap.size) w8 wY) := ⟨blk_put (Nat.le_refl _) nb, (Kp.of_grown gY).mono (fun g _ e => by injection e with e; exact e.symm)⟩; clear nb gY)
  refine ret_tmp_blk_tmp rfl rfl w.heap.size 34 rcZ _ rfl BY.out.1 Tryd.underlying34 rfl rfl ?_
  obtain ⟨v1, v2, v3, v4⟩ := BX.out
  exact ⟨rfl, S2, v2.kp BY.out.2 (fun g hg e => NH.out (e ▸ hg)), v3, v4.trans BY.out.2 (fun g hg e => by omega)⟩

end Go.Proofs.YtcmfehabcklbpaaDoor

namespace Go.Proofs.YtcmfehabcklbpaaDoor
open Go.RowKit JM

/-- A disk, all durable: x in the file f, o in the other. -/
def D3 (f : Nat) (x o : List Nat) (q : List (Int × Int)) (wr : Int) (dn : Bool) : Dk := if f = 0 then ⟨x, x.length, o, o.length, q, wr, dn⟩ else ⟨o, o.length, x, x.length, q, wr, dn⟩
theorem D3_dn (f : Nat) (x o : List Nat) (q : List (Int × Int)) (wr : Int) (dn : Bool) : (D3 f x o q wr dn).dn = dn := by unfold D3; split <;> rfl
theorem D3_wr (f : Nat) (x o : List Nat) (q : List (Int × Int)) (wr : Int) (dn : Bool) : (D3 f x o q wr dn).wr = wr := by unfold D3; split <;> rfl
theorem D3_q (f : Nat) (x o : List Nat) (q : List (Int × Int)) (wr : Int) (dn : Bool) : (D3 f x o q wr dn).q = q := by unfold D3; split <;> rfl
theorem D3_x {f : Nat} (hf : f = 0 ∨ f = 1) (x o : List Nat) (q : List (Int × Int)) (wr : Int) (dn : Bool) : (D3 f x o q wr dn).fbN f = x := by rcases hf with rfl | rfl <;> rfl
theorem D3_o {f : Nat} (hf : f = 0 ∨ f = 1) (x o : List Nat) (q : List (Int × Int)) (wr : Int) (dn : Bool) : (D3 f x o q wr dn).ob f = o := by rcases hf with rfl | rfl <;> rfl
theorem D3_turn {f : Nat} (hf : f = 0 ∨ f = 1) (x o : List Nat) (q : List (Int × Int)) (wr : Int) (dn : Bool) : D3 f x o q wr dn = D3 (1 - f) o x q wr dn := by rcases hf with rfl | rfl <;> rfl
theorem D2_D3 (f : Nat) (x o : List Nat) (wr : Int) : D2 f x o wr = D3 f x o [] wr false := by unfold D2 D3; split <;> rfl

/-- A write goes well, or the disk goes down. -/
theorem write_two (t : Dk) : (∃ q', t.write = ({ t with q := q', wr := t.wr + 1 }, 0) ∧ (t.q = [] → q' = [])) ∨ (t.q ≠ [] ∧ ∃ q' k, t.write = ({ t with b0 := t.b0.take (left t.b0 t.d0 k), d0 := left t.b0 t.d0 k, b1 := t.b1.take (left t.b1 t.d1 k), d1 := left t.b1 t.d1 k, q := q', wr := t.wr + 1, dn := true }, 51)) := by
  cases hq : t.q with
  | nil => exact .inl ⟨[], by rw [Dk.write_nil hq]; exact Prod.ext (by cases t; simp_all) rfl, fun _ => rfl⟩
  | cons c q =>
    rw [Dk.write_cons hq]
    by_cases h : 0 < c.1 - 1
    · rw [if_pos h]; exact .inl ⟨(c.1 - 1, c.2) :: q, rfl, fun h => by cases h⟩
    · rw [if_neg h]; exact .inr ⟨by simp, q, c.2.toNat, rfl⟩
theorem left_full (b : List Nat) (k : Nat) : left b b.length k = b.length := by unfold left; omega
theorem left_two (b : List Nat) (d k : Nat) (h : d ≤ b.length) : d ≤ left b d k ∧ left b d k ≤ b.length := by unfold left; omega

/-- How a call of the journal's on such a disk ends. -/
inductive Ends (q : List (Int × Int)) (wr m : Int) (good : List (Int × Int) → Int → Dk) (bad : Dk → Prop) (r : Dk × Int) : Prop
  | ok (q' : List (Int × Int)) (wr' : Int) (h : r = (good q' wr', 0)) (hq : q = [] → q' = []) (h1 : wr ≤ wr') (h2 : wr' ≤ wr + m)
  | fell (t : Dk) (h : r = (t, 51)) (hq : q ≠ []) (hb : bad t)

theorem lay3 {f : Nat} (hf : f = 0 ∨ f = 1) (x o F : List Nat) (q : List (Int × Int)) (wr : Int) (h : x.length + F.length ≤ 16777216) :
    Ends q wr 2 (fun q' wr' => D3 f (x ++ F) o q' wr' false) (fun t => ∃ c q' wr', t = D3 f ((x ++ F).take c) o q' wr' true ∧ x.length ≤ c ∧ c ≤ (x ++ F).length ∧ wr ≤ wr' ∧ wr' ≤ wr + 2) ((D3 f x o q wr false).lay f F) := by
  rcases hf with rfl | rfl
  · have e : (D3 0 x o q wr false).append 0 F = (⟨x ++ F, x.length, o, o.length, q, wr, false⟩ : Dk).write := by
      show (if (0 : Int) ≠ 0 then _ else if 16777216 < x.length + F.length then _ else _) = _
      rw [if_neg (by omega), if_neg (by omega)]; rfl
    have le := left_two (x ++ F) x.length
    rcases write_two ⟨x ++ F, x.length, o, o.length, q, wr, false⟩ with ⟨q1, h1, hq1⟩ | ⟨hq1, q1, k, h1⟩
    · have L : (D3 0 x o q wr false).lay ((0 : Nat) : Int) F = (⟨x ++ F, x.length, o, o.length, q1, wr + 1, false⟩ : Dk).sync 0 := by
        show (if ((D3 0 x o q wr false).append 0 F).2 ≠ 0 then _ else ((D3 0 x o q wr false).append 0 F).1.sync 0) = _
        rw [e, h1, if_neg (by simp)]
      have Sy : (⟨x ++ F, x.length, o, o.length, q1, wr + 1, false⟩ : Dk).sync 0 = if (⟨x ++ F, x.length, o, o.length, q1, wr + 1, false⟩ : Dk).write.2 ≠ 0 then (⟨x ++ F, x.length, o, o.length, q1, wr + 1, false⟩ : Dk).write else ((⟨x ++ F, x.length, o, o.length, q1, wr + 1, false⟩ : Dk).write.1.put 0 ((⟨x ++ F, x.length, o, o.length, q1, wr + 1, false⟩ : Dk).write.1.fb 0) ((⟨x ++ F, x.length, o, o.length, q1, wr + 1, false⟩ : Dk).write.1.fb 0).length, 0) := rfl
      rw [L, Sy]
      rcases write_two ⟨x ++ F, x.length, o, o.length, q1, wr + 1, false⟩ with ⟨q2, h2, hq2⟩ | ⟨hq2, q2, k, h2⟩
      · rw [h2, if_neg (by simp)]
        exact .ok q2 (wr + 1 + 1) rfl (fun h => hq2 (hq1 h)) (by omega) (by omega)
      · rw [h2, if_pos (by simp)]
        refine .fell _ rfl (fun h => hq2 (hq1 h)) ⟨left (x ++ F) x.length k, q2, wr + 1 + 1, ?_, (le k (by simp)).1, (le k (by simp)).2, by omega, by omega⟩
        have := (le k (by simp)).2
        show (⟨_, _, _, _, _, _, _⟩ : Dk) = ⟨_, _, _, _, _, _, _⟩
        simp only [left_full, List.length_take, List.take_length]
        rw [Nat.min_eq_left this]
    · have L : (D3 0 x o q wr false).lay ((0 : Nat) : Int) F = (⟨x ++ F, x.length, o, o.length, q, wr, false⟩ : Dk).write := by
        show (if ((D3 0 x o q wr false).append 0 F).2 ≠ 0 then _ else ((D3 0 x o q wr false).append 0 F).1.sync 0) = _
        rw [e, h1, if_pos (by simp)]
        exact e.trans h1
      rw [L, h1]
      refine .fell _ rfl hq1 ⟨left (x ++ F) x.length k, q1, wr + 1, ?_, (le k (by simp)).1, (le k (by simp)).2, by omega, by omega⟩
      have := (le k (by simp)).2
      show (⟨_, _, _, _, _, _, _⟩ : Dk) = ⟨_, _, _, _, _, _, _⟩
      simp only [left_full, List.length_take, List.take_length]
      rw [Nat.min_eq_left this]
  · have e : (D3 1 x o q wr false).append 1 F = (⟨o, o.length, x ++ F, x.length, q, wr, false⟩ : Dk).write := by
      show (if (0 : Int) ≠ 0 then _ else if 16777216 < x.length + F.length then _ else _) = _
      rw [if_neg (by omega), if_neg (by omega)]; rfl
    have le := left_two (x ++ F) x.length
    rcases write_two ⟨o, o.length, x ++ F, x.length, q, wr, false⟩ with ⟨q1, h1, hq1⟩ | ⟨hq1, q1, k, h1⟩
    · have L : (D3 1 x o q wr false).lay ((1 : Nat) : Int) F = (⟨o, o.length, x ++ F, x.length, q1, wr + 1, false⟩ : Dk).sync 1 := by
        show (if ((D3 1 x o q wr false).append 1 F).2 ≠ 0 then _ else ((D3 1 x o q wr false).append 1 F).1.sync 1) = _
        rw [e, h1, if_neg (by simp)]
      have Sy : (⟨o, o.length, x ++ F, x.length, q1, wr + 1, false⟩ : Dk).sync 1 = if (⟨o, o.length, x ++ F, x.length, q1, wr + 1, false⟩ : Dk).write.2 ≠ 0 then (⟨o, o.length, x ++ F, x.length, q1, wr + 1, false⟩ : Dk).write else ((⟨o, o.length, x ++ F, x.length, q1, wr + 1, false⟩ : Dk).write.1.put 1 ((⟨o, o.length, x ++ F, x.length, q1, wr + 1, false⟩ : Dk).write.1.fb 1) ((⟨o, o.length, x ++ F, x.length, q1, wr + 1, false⟩ : Dk).write.1.fb 1).length, 0) := rfl
      rw [L, Sy]
      rcases write_two ⟨o, o.length, x ++ F, x.length, q1, wr + 1, false⟩ with ⟨q2, h2, hq2⟩ | ⟨hq2, q2, k, h2⟩
      · rw [h2, if_neg (by simp)]
        exact .ok q2 (wr + 1 + 1) rfl (fun h => hq2 (hq1 h)) (by omega) (by omega)
      · rw [h2, if_pos (by simp)]
        refine .fell _ rfl (fun h => hq2 (hq1 h)) ⟨left (x ++ F) x.length k, q2, wr + 1 + 1, ?_, (le k (by simp)).1, (le k (by simp)).2, by omega, by omega⟩
        have := (le k (by simp)).2
        show (⟨_, _, _, _, _, _, _⟩ : Dk) = ⟨_, _, _, _, _, _, _⟩
        simp only [left_full, List.length_take, List.take_length]
        rw [Nat.min_eq_left this]
    · have L : (D3 1 x o q wr false).lay ((1 : Nat) : Int) F = (⟨o, o.length, x ++ F, x.length, q, wr, false⟩ : Dk).write := by
        show (if ((D3 1 x o q wr false).append 1 F).2 ≠ 0 then _ else ((D3 1 x o q wr false).append 1 F).1.sync 1) = _
        rw [e, h1, if_pos (by simp)]
        exact e.trans h1
      rw [L, h1]
      refine .fell _ rfl hq1 ⟨left (x ++ F) x.length k, q1, wr + 1, ?_, (le k (by simp)).1, (le k (by simp)).2, by omega, by omega⟩
      have := (le k (by simp)).2
      show (⟨_, _, _, _, _, _, _⟩ : Dk) = ⟨_, _, _, _, _, _, _⟩
      simp only [left_full, List.length_take, List.take_length]
      rw [Nat.min_eq_left this]

theorem cut3 {f : Nat} (hf : f = 0 ∨ f = 1) (x o : List Nat) (q : List (Int × Int)) (wr : Int) {n : Nat} (h : n ≤ x.length) :
    Ends q wr (if x.length = n then 0 else 1) (fun q' wr' => D3 f (x.take n) o q' wr' false) (fun t => ∃ q' wr', t = D3 f x o q' wr' true ∧ wr ≤ wr' ∧ wr' ≤ wr + 1) ((D3 f x o q wr false).cut f x.length n) := by
  unfold Dk.cut
  by_cases hn : x.length = n
  · rw [if_pos hn, if_pos hn]
    exact .ok q wr (by rw [List.take_of_length_le (by omega)]) (fun h => h) (by omega) (by omega)
  · rw [if_neg hn, if_neg hn]
    have hl : (x.take n).length = n := by rw [List.length_take]; omega
    rcases hf with rfl | rfl
    · have T : (D3 0 x o q wr false).trunc (0 : Nat) n = if (D3 0 x o q wr false).write.2 ≠ 0 then (D3 0 x o q wr false).write else ((D3 0 x o q wr false).write.1.put 0 (((D3 0 x o q wr false).write.1.fb 0).take (n : Int).toNat) (n : Int).toNat, 0) := by
        show (if (0 : Int) ≠ 0 then _ else if (n : Int) < 0 ∨ (x.length : Int) < (n : Int) then _ else _) = _
        rw [if_neg (by omega), if_neg (by omega)]; rfl
      rw [T]
      rcases write_two (D3 0 x o q wr false) with ⟨q1, h1, hq1⟩ | ⟨hq1, q1, k, h1⟩
      · rw [h1, if_neg (by simp)]
        refine .ok q1 (wr + 1) ?_ hq1 (by omega) (by omega)
        show ((⟨x.take (n : Int).toNat, (n : Int).toNat, o, o.length, q1, wr + 1, false⟩ : Dk), (0 : Int)) = ((⟨x.take n, (x.take n).length, o, o.length, q1, wr + 1, false⟩ : Dk), 0)
        rw [hl, Int.toNat_natCast]
      · rw [h1, if_pos (by simp)]
        refine .fell _ rfl hq1 ⟨q1, wr + 1, ?_, by omega, by omega⟩
        show (⟨x.take (left x x.length k), left x x.length k, o.take (left o o.length k), left o o.length k, q1, wr + 1, true⟩ : Dk) = ⟨x, x.length, o, o.length, q1, wr + 1, true⟩
        simp only [left_full, List.take_length]
    · have T : (D3 1 x o q wr false).trunc (1 : Nat) n = if (D3 1 x o q wr false).write.2 ≠ 0 then (D3 1 x o q wr false).write else ((D3 1 x o q wr false).write.1.put 1 (((D3 1 x o q wr false).write.1.fb 1).take (n : Int).toNat) (n : Int).toNat, 0) := by
        show (if (0 : Int) ≠ 0 then _ else if (n : Int) < 0 ∨ (x.length : Int) < (n : Int) then _ else _) = _
        rw [if_neg (by omega), if_neg (by omega)]; rfl
      rw [T]
      rcases write_two (D3 1 x o q wr false) with ⟨q1, h1, hq1⟩ | ⟨hq1, q1, k, h1⟩
      · rw [h1, if_neg (by simp)]
        refine .ok q1 (wr + 1) ?_ hq1 (by omega) (by omega)
        show ((⟨o, o.length, x.take (n : Int).toNat, (n : Int).toNat, q1, wr + 1, false⟩ : Dk), (0 : Int)) = ((⟨o, o.length, x.take n, (x.take n).length, q1, wr + 1, false⟩ : Dk), 0)
        rw [hl, Int.toNat_natCast]
      · rw [h1, if_pos (by simp)]
        refine .fell _ rfl hq1 ⟨q1, wr + 1, ?_, by omega, by omega⟩
        show (⟨o.take (left o o.length k), left o o.length k, x.take (left x x.length k), left x x.length k, q1, wr + 1, true⟩ : Dk) = ⟨o, o.length, x, x.length, q1, wr + 1, true⟩
        simp only [left_full, List.take_length]
/-- The other file, emptied. -/
theorem cuto3 {f : Nat} (hf : f = 0 ∨ f = 1) (x o : List Nat) (q : List (Int × Int)) (wr : Int) :
    Ends q wr (if o.length = 0 then 0 else 1) (fun q' wr' => D3 f x [] q' wr' false) (fun t => ∃ q' wr', t = D3 f x o q' wr' true ∧ wr ≤ wr' ∧ wr' ≤ wr + 1) ((D3 f x o q wr false).cut (1 - (f : Int)) o.length 0) := by
  have h := cut3 (oneSub01 hf) o x q wr (n := 0) (by omega)
  rw [oneSub hf, ← D3_turn hf] at h
  cases h with
  | ok q' wr' h hq h1 h2 => exact .ok q' wr' (by rw [h, D3_turn hf]; rfl) hq h1 h2
  | fell t h hq hb =>
    obtain ⟨q', wr', e, b1, b2⟩ := hb
    exact .fell t h hq ⟨q', wr', by rw [e, D3_turn hf], b1, b2⟩
theorem renew3 {f : Nat} (hf : f = 0 ∨ f = 1) (x o F : List Nat) (q : List (Int × Int)) (wr : Int) (h : F.length ≤ 16777216) :
    Ends q wr 3 (fun q' wr' => D3 (1 - f) F x q' wr' false) (fun t => (∃ q' wr', t = D3 f x o q' wr' true ∧ wr ≤ wr' ∧ wr' ≤ wr + 3) ∨ ∃ c q' wr', t = D3 f x (F.take c) q' wr' true ∧ c ≤ F.length ∧ wr ≤ wr' ∧ wr' ≤ wr + 3) ((D3 f x o q wr false).renew (1 - (f : Int)) F) := by
  have hr : (D3 f x o q wr false).read (1 - (f : Int)) = (o, 0) := by rcases hf with rfl | rfl <;> rfl
  have E : (D3 f x o q wr false).renew (1 - (f : Int)) F = if ((D3 f x o q wr false).cut (1 - (f : Int)) o.length 0).2 ≠ 0 then (D3 f x o q wr false).cut (1 - (f : Int)) o.length 0 else ((D3 f x o q wr false).cut (1 - (f : Int)) o.length 0).1.lay (1 - (f : Int)) F := by
    unfold Dk.renew
    rw [hr, if_neg (by simp)]
  rw [E]
  cases cuto3 hf x o q wr with
  | ok q1 wr1 h1 hq b1 b2 =>
    rw [h1, if_neg (by simp)]
    have L := lay3 (oneSub01 hf) [] x F q1 wr1 (by simpa using h)
    have e2 : D3 f x [] q1 wr1 false = D3 (1 - f) [] x q1 wr1 false := D3_turn hf _ _ _ _ _
    show Ends _ _ _ _ _ ((D3 f x [] q1 wr1 false).lay (1 - (f : Int)) F)
    rw [e2, ← oneSub hf]
    have hm : (if o.length = 0 then (0 : Int) else 1) ≤ 1 := by split <;> omega
    cases L with
    | ok q2 wr2 h2 hq2 c1 c2 => exact .ok q2 wr2 (by rw [h2, List.nil_append]) (fun e => hq2 (hq e)) (by omega) (by omega)
    | fell t h2 hq2 hb =>
      obtain ⟨c, q2, wr2, e, a1, a2, a3, a4⟩ := hb
      rw [List.nil_append] at e a2
      exact .fell t h2 (fun e => hq2 (hq e)) (.inr ⟨c, q2, wr2, by rw [e, D3_turn hf], a2, by omega, by omega⟩)
  | fell t h1 hq hb =>
    rw [h1, if_pos (by simp)]
    obtain ⟨q', wr', e, b1, b2⟩ := hb
    exact .fell t rfl hq (.inl ⟨q', wr', e, b1, by omega⟩)
end Go.Proofs.YtcmfehabcklbpaaDoor

namespace Go.Proofs.YtcmfehabcklbpaaDoor
open Go.RowKit JM

/-- What a journal holds. -/
structure Stt where
  ep : Nat
  sn : List Nat
  rs : List (List Nat)
def Stt.f (s : Stt) : List Nat := jf s.ep s.sn s.rs
def Stt.push (s : Stt) (r : List Nat) : Stt := ⟨s.ep, s.sn, s.rs ++ [r]⟩
def Stt.next (s : Stt) (r : List Nat) : Stt := ⟨s.ep + 1, r, []⟩
/-- Behind i steps with M bytes in all. -/
structure SOk (s : Stt) (i M : Nat) : Prop where
  e1 : 1 ≤ s.ep
  e2 : s.ep ≤ 1 + i
  sb : ∀ b ∈ s.sn, b < 256
  sl : s.sn.length ≤ 4096
  rb : ∀ r ∈ s.rs, ∀ b ∈ r, b < 256
  rl : ∀ r ∈ s.rs, r.length ≤ 4096
  rn : s.rs.length ≤ i
  len : s.f.length ≤ 28 + M + 9 * i
theorem SOk.mono {s : Stt} {i M j N : Nat} (h : SOk s i M) (hi : i ≤ j) (hM : M ≤ N) : SOk s j N := ⟨h.e1, by have := h.e2; omega, h.sb, h.sl, h.rb, h.rl, by have := h.rn; omega, by have := h.len; omega⟩
theorem SOk.push {s : Stt} {i M : Nat} {r : List Nat} (h : SOk s i M) (hb : ∀ b ∈ r, b < 256) (hl : r.length ≤ 4096) : SOk (s.push r) (i + 1) (M + r.length) := by
  refine ⟨h.e1, by have := h.e2; show s.ep ≤ _; omega, h.sb, h.sl, fun x hx => (List.mem_append.1 hx).elim (h.rb x) (fun e => by rw [List.mem_singleton.1 e]; exact hb), fun x hx => (List.mem_append.1 hx).elim (h.rl x) (fun e => by rw [List.mem_singleton.1 e]; exact hl), ?_, ?_⟩
  · have := h.rn; show (s.rs ++ [r]).length ≤ _; rw [List.length_append]; simp; omega
  · have := h.len; show (jf s.ep s.sn (s.rs ++ [r])).length ≤ _; rw [jf_len_push]; unfold Stt.f at this; omega
theorem SOk.next {s : Stt} {i M : Nat} {r : List Nat} (h : SOk s i M) (hb : ∀ b ∈ r, b < 256) (hl : r.length ≤ 4096) (hi : i ≤ 10000) : SOk (s.next r) (i + 1) (M + r.length) := by
  have := h.e2
  refine ⟨by show 1 ≤ s.ep + 1; omega, by show s.ep + 1 ≤ _; omega, hb, hl, (fun x hx => nomatch hx), (fun x hx => nomatch hx), Nat.zero_le _, ?_⟩
  have := jf_len1 (s.ep + 1) r (by omega)
  show (jf (s.ep + 1) r []).length ≤ _; omega
theorem push_f (s : Stt) (r : List Nat) : (s.push r).f = s.f ++ CrcM.enc (rp r) := jf_push s.ep s.sn s.rs r
theorem next_f (s : Stt) (r : List Nat) : (s.next r).f = CrcM.enc (hp (s.ep + 1) r) := by show jf (s.ep + 1) r [] = _; unfold jf; rw [List.map_nil, join_nil, List.append_nil]
/-- The rest of what is on the disk. -/
structure JX3 (f : Nat) (s : Stt) (o tail : List Nat) : Prop where
  f01 : f = 0 ∨ f = 1
  mute : Mute tail
  old : Old s.ep o
  tb : ∀ b ∈ tail, b < 256
  ob : ∀ b ∈ o, b < 256
/-- A disk that holds this, all durable. -/
def Hd3 (t : Dk) (s : Stt) : Prop := ∃ f o tail q wr dn, t = D3 f (s.f ++ tail) o q wr dn ∧ JX3 f s o tail
theorem JX3.jr {f : Nat} {s : Stt} {o tail : List Nat} {i M : Nat} (h : JX3 f s o tail) (k : SOk s i M) (hi : i ≤ 10000) (q : List (Int × Int)) (wr : Int) (dn : Bool) : Jr (D3 f (s.f ++ tail) o q wr dn) f s.ep s.sn s.rs tail :=
  ⟨h.f01, D3_x h.f01 _ _ _ _ _, h.mute, by rw [D3_o h.f01]; exact h.old, k.e1, by have := k.e2; omega, k.sb, by have := k.sl; omega, k.rb, fun r hr => by have := k.rl r hr; omega, h.tb, by rw [D3_o h.f01]; exact h.ob⟩
theorem JX3.tail {f : Nat} {s : Stt} {o tail : List Nat} (h : JX3 f s o tail) : JX3 f s o [] := ⟨h.f01, Mute.nil, h.old, (fun _ hb => nomatch hb), h.ob⟩
theorem JX3.empty {f : Nat} {s : Stt} {o tail : List Nat} (h : JX3 f s o tail) : JX3 f s [] [] := ⟨h.f01, Mute.nil, Old.nil _, (fun _ hb => nomatch hb), (fun _ hb => nomatch hb)⟩
theorem enc_rp_lt {r : List Nat} (h : ∀ b ∈ r, b < 256) : ∀ b ∈ CrcM.enc (rp r), b < 256 := CrcM.enc_lt fun c hc => (List.mem_cons.1 hc).elim (fun e => by omega) (h c)
theorem enc_hp_lt {ep : Nat} {r : List Nat} (h : ∀ b ∈ r, b < 256) : ∀ b ∈ CrcM.enc (hp ep r), b < 256 := CrcM.enc_lt fun c hc => (List.mem_cons.1 hc).elim (fun e => by omega) (fun hc => (List.mem_append.1 hc).elim (put_byte ep c) (h c))
/-- An append that was cut off: all of it or nothing. -/
theorem fell_append {f : Nat} {s : Stt} {o r : List Nat} (h : JX3 f s o []) (hb : ∀ b ∈ r, b < 256) (hl : r.length ≤ 4096) {c : Nat} (h1 : s.f.length ≤ c) (h2 : c ≤ (s.f ++ CrcM.enc (rp r)).length) (q : List (Int × Int)) (wr : Int) (dn : Bool) :
    Hd3 (D3 f ((s.f ++ CrcM.enc (rp r)).take c) o q wr dn) s ∨ Hd3 (D3 f ((s.f ++ CrcM.enc (rp r)).take c) o q wr dn) (s.push r) := by
  by_cases hc : c = (s.f ++ CrcM.enc (rp r)).length
  · subst hc
    rw [List.take_length]
    exact .inr ⟨f, o, [], q, wr, dn, by rw [push_f, List.append_nil], h.f01, Mute.nil, h.old, (fun _ hb => nomatch hb), h.ob⟩
  · left
    have hp : (rp r).length ≤ 4194304 := by simp [rp]; omega
    have hx : c - s.f.length < (rp r).length + 8 := by rw [List.length_append, CrcM.enc_len] at h2 hc; omega
    refine ⟨f, o, (CrcM.enc (rp r)).take (c - s.f.length), q, wr, dn, ?_, h.f01, mute_part _ _ hp hx, h.old, fun b hb' => enc_rp_lt hb b (List.mem_of_mem_take hb'), h.ob⟩
    rw [List.take_append, List.take_of_length_le h1]
theorem jx_push {f : Nat} {s : Stt} {o r : List Nat} (h : JX3 f s o []) : JX3 f (s.push r) o [] := ⟨h.f01, Mute.nil, h.old, (fun _ hb => nomatch hb), h.ob⟩
theorem s_lt {s : Stt} {i M : Nat} (k : SOk s i M) : ∀ b ∈ s.f, b < 256 := jf_lt s.ep s.sn s.rs k.sb k.rb
theorem jx_next {f : Nat} {s : Stt} {o r : List Nat} {i M : Nat} (h : JX3 f s o []) (k : SOk s i M) (hi : i ≤ 10000) : JX3 (1 - f) (s.next r) s.f [] :=
  ⟨oneSub01 h.f01, Mute.nil, by show Old (s.ep + 1) _; unfold Stt.f jf; exact Old.head s.ep s.sn _ k.e1 (by have := k.e2; omega) k.sb (by have := k.sl; omega), (fun _ hb => nomatch hb), s_lt k⟩
theorem fell_renew {f : Nat} {s : Stt} {o r : List Nat} {i M : Nat} (h : JX3 f s o []) (k : SOk s i M) (hi : i ≤ 10000) (hb : ∀ b ∈ r, b < 256) (hl : r.length ≤ 4096) {c : Nat} (h2 : c ≤ (CrcM.enc (hp (s.ep + 1) r)).length) (q : List (Int × Int)) (wr : Int) (dn : Bool) :
    Hd3 (D3 f s.f ((CrcM.enc (hp (s.ep + 1) r)).take c) q wr dn) s ∨ Hd3 (D3 f s.f ((CrcM.enc (hp (s.ep + 1) r)).take c) q wr dn) (s.next r) := by
  have e2 := k.e2
  have hp : (hp (s.ep + 1) r).length ≤ 4194304 := hp_len _ _ (by omega) (by omega)
  by_cases hc : c = (CrcM.enc (JM.hp (s.ep + 1) r)).length
  · subst hc
    rw [List.take_length]
    exact .inr ⟨1 - f, s.f, [], q, wr, dn, by rw [next_f, List.append_nil, D3_turn h.f01], jx_next h k hi⟩
  · left
    rw [CrcM.enc_len] at h2 hc
    exact ⟨f, _, [], q, wr, dn, by rw [List.append_nil], h.f01, Mute.nil, Old.part s.ep _ c hp (by omega), (fun _ hb => nomatch hb), fun b hb' => enc_hp_lt hb b (List.mem_of_mem_take hb')⟩
theorem Hd3.up {t : Dk} {s : Stt} (h : Hd3 t s) : Hd3 t.restart.1 s := by
  obtain ⟨f, o, tail, q, wr, dn, e, j⟩ := h
  unfold Dk.restart
  split
  · refine ⟨f, o, tail, q, wr, false, ?_, j⟩
    rw [e]; unfold D3; split <;> rfl
  · exact ⟨f, o, tail, q, wr, dn, e, j⟩
theorem Hd3.setq {t : Dk} {s : Stt} (h : Hd3 t s) (q' : List (Int × Int)) : Hd3 { t with q := q' } s := by
  obtain ⟨f, o, tail, q, wr, dn, e, j⟩ := h
  refine ⟨f, o, tail, q', wr, dn, ?_, j⟩
  rw [e]; unfold D3; split <;> rfl

/-- A journal at J that lives, on the disk at R. -/
structure JA (w0 : World) (R J : Nat) (S : Nat → Prop) (f : Nat) (s : Stt) (o : List Nat) (q : List (Int × Int)) (wr : Int) (w : World) : Prop where
  d : DkAt R S (D3 f s.f o q wr false) w
  j : Blk J 72 (jnL R (f : Int) (s.ep : Int) (s.rs.length : Int) false) w
  n : ¬ S J
  x : JX3 f s o []
/-- A journal's call fell: the disk is down, the journal is dead. -/
structure JF (R J : Nat) (S : Nat → Prop) (s s' : Stt) (wr : Int) (w w' : World) : Prop where
  p : ∃ S' t', DkAt R S' t' w' ∧ t'.dn = true ∧ (Hd3 t' s ∨ Hd3 t' s') ∧ (wr ≤ t'.wr ∧ t'.wr ≤ wr + 3) ∧ JX J S S' w w' ∧ ¬ S' J ∧ ∃ f ep ct, Blk J 72 (jnL R f ep ct true) w'

theorem ja_append {w0 : World} {R J : Nat} {S : Nat → Prop} {f : Nat} {s : Stt} {o : List Nat} {q : List (Int × Int)} {wr : Int} {w : World} {i M : Nat} (h : JA w0 R J S f s o q wr w) (k : SOk s i M) (hi : i ≤ 5000) (hM : M ≤ 5000) (hw : 0 ≤ wr ∧ wr < 1000000000) (r : List Nat) (ad : Option Addr) (n c : Nat) (hr : ∀ b ∈ r, b < 256) (hl : r.length ≤ 4096) (hd : RdB w (.slice ad n c) r) (hT : TabS w) :
    Calls Tryd.prog 13 #[.pointer (some ⟨J, 0, none⟩), .slice ad n c] w fun e w' => (e = .returned (.int .i64 0) ∧ ∃ S' q' wr', JA w0 R J S' f (s.push r) o q' wr' w' ∧ (wr ≤ wr' ∧ wr' ≤ wr + 3) ∧ JX J S S' w w') ∨ (e = .returned (.int .i64 51) ∧ JF R J S s (s.push r) wr w w') := by
  have hx : s.f.length + (CrcM.enc (rp r)).length ≤ 16777216 := by have := k.len; rw [CrcM.enc_len]; simp [rp]; omega
  have lt := h.j.lt
  have E := lay3 h.x.f01 s.f o (CrcM.enc (rp r)) q wr hx
  refine (append_live R J S _ (f : Int) (s.ep : Int) (s.rs.length : Int) r ad n c w (by rw [D3_wr]; omega) (by have := k.rn; omega) h.d (dkAt_size h.d) h.j h.n hr (by omega) hd hT).mono ?_
  cases E with
  | ok q' wr' e hq b1 b2 =>
    rw [e]
    rintro x w' ⟨rfl, S', d, g1, b, kp⟩
    rw [if_pos rfl] at b
    refine .inl ⟨rfl, S', q', wr', ⟨by rw [push_f]; exact d, ?_, fun hs => (g1 J hs).elim h.n (fun h => by omega), jx_push h.x⟩, ⟨b1, by omega⟩, g1, kp⟩
    show Blk J _ (jnL R (f : Int) (s.ep : Int) ((s.rs ++ [r]).length : Int) false) w'
    rw [List.length_append]; exact b
  | fell t' e hq hb =>
    rw [e]
    rintro x w' ⟨rfl, S', d, g1, b, kp⟩
    rw [if_neg (by simp)] at b
    obtain ⟨c', q', wr', rfl, c1, c2, c3, c4⟩ := hb
    exact .inr ⟨rfl, ⟨S', _, d, D3_dn _ _ _ _ _ _, fell_append h.x hr hl c1 c2 q' wr' true, by rw [D3_wr]; exact ⟨c3, by omega⟩, ⟨g1, kp⟩, fun hs => (g1 J hs).elim h.n (fun h => by omega), _, _, _, b⟩⟩

theorem ja_compact {w0 : World} {R J : Nat} {S : Nat → Prop} {f : Nat} {s : Stt} {o : List Nat} {q : List (Int × Int)} {wr : Int} {w : World} {i M : Nat} (h : JA w0 R J S f s o q wr w) (k : SOk s i M) (hi : i ≤ 5000) (hw : 0 ≤ wr ∧ wr < 1000000000) (r : List Nat) (ad : Option Addr) (n c : Nat) (hr : ∀ b ∈ r, b < 256) (hl : r.length ≤ 4096) (hd : RdB w (.slice ad n c) r) (hT : TabS w) :
    Calls Tryd.prog 14 #[.pointer (some ⟨J, 0, none⟩), .slice ad n c] w fun e w' => (e = .returned (.int .i64 0) ∧ ∃ S' q' wr', JA w0 R J S' (1 - f) (s.next r) s.f q' wr' w' ∧ (wr ≤ wr' ∧ wr' ≤ wr + 3) ∧ JX J S S' w w') ∨ (e = .returned (.int .i64 51) ∧ JF R J S s (s.next r) wr w w') := by
  have e2 := k.e2
  have hpl := put_len10 (s.ep + 1) (by omega)
  have hx : (CrcM.enc (hp (s.ep + 1) r)).length ≤ 16777216 := by rw [CrcM.enc_len]; simp [hp]; omega
  have lt := h.j.lt
  have f01 : (f : Int) = 0 ∨ (f : Int) = 1 := by have := h.x.f01; omega
  have E := renew3 h.x.f01 s.f o (CrcM.enc (hp (s.ep + 1) r)) q wr hx
  refine (compact_live R J S _ (f : Int) s.ep (s.rs.length : Int) r ad n c w (by rw [D3_wr]; omega) f01 (by omega) h.d (dkAt_size h.d) h.j h.n hr (by omega) hd hT).mono ?_
  cases E with
  | ok q' wr' e hq b1 b2 =>
    rw [e]
    rintro x w' ⟨rfl, S', d, g1, b, kp⟩
    rw [if_pos rfl] at b
    refine .inl ⟨rfl, S', q', wr', ⟨by rw [next_f]; exact d, ?_, fun hs => (g1 J hs).elim h.n (fun h => by omega), jx_next h.x k (by omega)⟩, ⟨b1, by omega⟩, g1, kp⟩
    rw [oneSub h.x.f01]; exact b
  | fell t' e hq hb =>
    rw [e]
    rintro x w' ⟨rfl, S', d, g1, b, kp⟩
    rw [if_neg (by simp)] at b
    have nj : ¬ S' J := fun hs => (g1 J hs).elim h.n (fun h => by omega)
    rcases hb with ⟨q', wr', rfl, c3, c4⟩ | ⟨c', q', wr', rfl, c2, c3, c4⟩
    · exact .inr ⟨rfl, ⟨S', _, d, D3_dn _ _ _ _ _ _, .inl ⟨f, o, [], q', wr', true, by rw [List.append_nil], h.x⟩, by rw [D3_wr]; exact ⟨c3, c4⟩, ⟨g1, kp⟩, nj, _, _, _, b⟩⟩
    · exact .inr ⟨rfl, ⟨S', _, d, D3_dn _ _ _ _ _ _, fell_renew h.x k (by omega) hr hl c2 q' wr' true, by rw [D3_wr]; exact ⟨c3, c4⟩, ⟨g1, kp⟩, nj, _, _, _, b⟩⟩

/-- Open where a cut fails. -/
theorem open_bad (R : Nat) (S : Nat → Prop) (t t' : Dk) (k : Int) (w : World) (h : DkAt R S t w) (hA : Calls Tryd.prog 33 #[stV R] (w.alloc (.cells rcZ.toArray 34)) fun e w' => e = .returned (.tuple #[.pointer none, .agg rcZ.toArray, .int .i64 k]) ∧ DkPost R S (w.alloc (.cells rcZ.toArray 34)) t' w') :
    Calls Tryd.prog 12 #[.pointer (some ⟨R, 0, none⟩)] w fun e w' => e = .returned (.tuple #[.pointer none, .agg rcZ.toArray, .int .i64 k]) ∧ DkPost R S w t' w' := by
  have hS := dkAt_size h
  have b0 : Below w.heap.size w (w.alloc (.cells rcZ.toArray 34)) := below_alloc _ _
  have sz : (w.alloc (.cells rcZ.toArray 34)).heap.size = w.heap.size + 1 := by simp
  have nz := Blk.new 34 rcZ w
  have nS : ¬ S w.heap.size := fun hs => by have := hS _ hs; omega
  refine (open_gen R (fun p l k' w1 => p = .pointer none ∧ l = rcZ ∧ k' = k ∧ DkPost R S (w.alloc (.cells rcZ.toArray 34)) t' w1) w (hA.mono ?_)).mono ?_
  · rintro e w1 ⟨rfl, p⟩
    obtain ⟨S', d, g1, kp⟩ := p
    exact ⟨_, rcZ, k, rfl, rfl, rcZ_one, nz.kp kp nS, rfl, rfl, rfl, S', d, g1, kp⟩
  · rintro e w' ⟨p, l, k', w1, rfl, ⟨rfl, rfl, rfl, S', d, g1, kp⟩, k2⟩
    refine ⟨rfl, S', d.kp k2 (fun g hg e => ?_), fun g hg => (g1 g hg).imp id (fun h => by omega), ((Kp.of_below b0 S).trans kp (fun _ _ h => h)).trans k2 (fun g hg e => by omega)⟩
    subst e
    rcases g1 _ hg with h | h
    · exact nS h
    · omega

/-- What Open answers on a disk that holds s. -/
def OpA (R : Nat) (S : Nat → Prop) (s : Stt) (q : List (Int × Int)) (wr : Int) (z : Bool) (w : World) (e : Ending) (w' : World) : Prop :=
  (∃ G a1 c1 a2 c2, ∃ (S' : Nat → Prop) (f ct : Nat) (q' : List (Int × Int)) (wr' : Int), e = .returned (.tuple #[.pointer (some ⟨G, 0, none⟩), .agg #[.int .i64 (s.ep : Int), .slice a1 s.sn.length c1, .slice a2 s.rs.length c2, .int .i64 (ct : Int)], .int .i64 0]) ∧ JA w R G S' f s [] q' wr' w' ∧ (∀ g, S' g → S g ∨ w.heap.size ≤ g) ∧ Kp S w w' ∧ w.heap.size ≤ G ∧ RdB w' (.slice a1 s.sn.length c1) s.sn ∧ RdR w' (.slice a2 s.rs.length c2) s.rs ∧ (wr ≤ wr' ∧ wr' ≤ wr + 2) ∧ (q = [] → q' = []) ∧ (z = true → wr' = wr ∧ ct = 0)) ∨
  (e = .returned (.tuple #[.pointer none, .agg #[.int .i64 0, .slice none 0 0, .slice none 0 0, .int .i64 0], .int .i64 51]) ∧ q ≠ [] ∧ ∃ t', DkPost R S w t' w' ∧ t'.dn = true ∧ Hd3 t' s ∧ (wr ≤ t'.wr ∧ t'.wr ≤ wr + 2))
theorem open_any (R : Nat) (S : Nat → Prop) (f : Nat) (s : Stt) (o tail : List Nat) (q : List (Int × Int)) (wr : Int) (w : World) {i M : Nat} (x : JX3 f s o tail) (k : SOk s i M) (hi : i ≤ 5000) (hw : 0 ≤ wr ∧ wr < 1000000000) (h : DkAt R S (D3 f (s.f ++ tail) o q wr false) w) (hT : TabS w) :
    Calls Tryd.prog 12 #[.pointer (some ⟨R, 0, none⟩)] w (OpA R S s q wr (decide (o = [] ∧ tail = [])) w) := by
  have hj := x.jr k (by omega) q wr false
  have hdn : (D3 f (s.f ++ tail) o q wr false).dn = false := D3_dn _ _ _ _ _ _
  have hS := dkAt_size h
  have ok := h.1
  have b0 : Below w.heap.size w (w.alloc (.cells rcZ.toArray 34)) := below_alloc _ _
  have d0 := h.below b0
  have T0 := hT.below b0
  have hr := hj.recs
  have hn := hj.newest
  have xb := hj.xb
  have ob := hj.ob
  have ln := hj.len
  have l0 := ok.l0
  have l1 := ok.l1
  have fl : s.f.length = (CrcM.enc (hp s.ep s.sn)).length + (CrcM.join (s.rs.map rp)).length := jf_len _ _ _
  have tk : (s.f ++ tail).take s.f.length = s.f := List.take_left
  have C1 := cut3 x.f01 (s.f ++ tail) o q wr (n := s.f.length) (by rw [List.length_append]; omega)
  rw [tk] at C1
  have W0 : 0 ≤ (D3 f (s.f ++ tail) o q wr false).wr ∧ (D3 f (s.f ++ tail) o q wr false).wr < 1152921504606846976 := by rw [D3_wr]; omega
  have m01 : (if (s.f ++ tail).length = s.f.length then (0 : Int) else 1) ≤ 1 := by split <;> omega
  cases C1 with
  | fell t1 e1 hq hb =>
    obtain ⟨q', wr', rfl, b1, b2⟩ := hb
    refine (open_bad R S _ (D3 f (s.f ++ tail) o q' wr' true) 51 w h ?_).mono fun e w' ⟨he, p⟩ => .inr ⟨he, hq, _, p, D3_dn _ _ _ _ _ _, ⟨f, o, tail, q', wr', true, rfl, x⟩, by rw [D3_wr]; omega⟩
    rcases x.f01 with rfl | rfl
    · refine recovered_fa0 R S _ _ 51 _ _ s.ep _ _ s.sn s.rs _ rfl rfl W0 hdn hn hr (by rw [← fl]; exact e1) (by omega) ?_ d0 (dkAt_size d0) xb ob (by omega) (by omega) T0
      have : ((D3 0 (s.f ++ tail) o q wr false).fbN 0).length = ((D3 0 (s.f ++ tail) o q wr false).b0).length := rfl
      omega
    · refine recovered_fa1 R S _ _ 51 _ _ s.ep _ _ s.sn s.rs _ rfl rfl W0 hdn hn hr (by rw [← fl]; exact e1) (by omega) ?_ d0 (dkAt_size d0) ob xb (by omega) (by omega) T0
      have : ((D3 1 (s.f ++ tail) o q wr false).fbN 1).length = ((D3 1 (s.f ++ tail) o q wr false).b1).length := rfl
      omega
  | ok q1 wr1 e1 hq1 b1 b2 =>
    have C2 := cuto3 x.f01 s.f o q1 wr1
    have m02 : (if o.length = 0 then (0 : Int) else 1) ≤ 1 := by split <;> omega
    cases C2 with
    | fell t2 e2 hq hb =>
      obtain ⟨q', wr', rfl, c1, c2⟩ := hb
      refine (open_bad R S _ (D3 f s.f o q' wr' true) 51 w h ?_).mono fun e w' ⟨he, p⟩ => .inr ⟨he, fun h => hq (hq1 h), _, p, D3_dn _ _ _ _ _ _, ⟨f, o, [], q', wr', true, by rw [List.append_nil], x.tail⟩, by rw [D3_wr]; omega⟩
      rcases x.f01 with rfl | rfl
      · refine recovered_fb0 R S _ _ _ 51 _ _ s.ep _ _ s.sn s.rs _ rfl rfl W0 hdn hn hr (by rw [← fl]; exact e1) e2 (by omega) ?_ d0 (dkAt_size d0) xb ob (by omega) (by omega) T0
        have : ((D3 0 (s.f ++ tail) o q wr false).fbN 0).length = ((D3 0 (s.f ++ tail) o q wr false).b0).length := rfl
        omega
      · refine recovered_fb1 R S _ _ _ 51 _ _ s.ep _ _ s.sn s.rs _ rfl rfl W0 hdn hn hr (by rw [← fl]; exact e1) e2 (by omega) ?_ d0 (dkAt_size d0) ob xb (by omega) (by omega) T0
        have : ((D3 1 (s.f ++ tail) o q wr false).fbN 1).length = ((D3 1 (s.f ++ tail) o q wr false).b1).length := rfl
        omega
    | ok q2 wr2 e2 hq2 c1 c2 =>
      refine (open_ok R S _ _ _ f s.ep s.sn s.rs tail w hj W0 hdn (by rw [D3_x x.f01]; exact e1) (by rw [D3_o x.f01]; exact e2) h hT).mono ?_
      rintro e w' ⟨G, sv, rv, S', rfl, h1, h2, h3, h4, h5, h6, h7, h8⟩
      have rb := h7.rd
      have rr := h8.rd
      obtain ⟨g, oo, c, rfl, _⟩ := h7.len
      obtain ⟨a, c', rfl, _⟩ := h8.len
      refine .inl ⟨G, _, c, a, c', S', f, tail.length, q2, wr2, rfl, ⟨h2, h1, h4, x.empty⟩, h3, h5, h6, rb, rr, ⟨by omega, by omega⟩, fun h => hq2 (hq1 h), fun hz => ?_⟩
      obtain ⟨rfl, rfl⟩ := of_decide_eq_true hz
      rw [if_pos (by simp)] at b2
      rw [if_pos (by simp)] at c2
      exact ⟨by omega, rfl⟩
end Go.Proofs.YtcmfehabcklbpaaDoor

namespace Go.Proofs.YtcmfehabcklbpaaDoor
open Go.RowKit JM

theorem D3_up (f : Nat) (x o : List Nat) (q : List (Int × Int)) (wr : Int) : (D3 f x o q wr true).restart.1 = D3 f x o q wr false := by
  unfold Dk.restart; rw [D3_dn, if_pos rfl]; unfold D3; split <;> rfl
/-- The slices of a book. -/
structure Bv where
  a1 : Option Addr
  n1 : Nat
  c1 : Nat
  a2 : Option Addr
  n2 : Nat
  c2 : Nat
  e3 : Int
  a3 : Option Addr
  n3 : Nat
  c3 : Nat
  a4 : Option Addr
  n4 : Nat
  c4 : Nat
def bkC (R : Nat) (jv : Value) (al : Bool) (ep : Int) (mb : Bool) (v : Bv) : List Value := [.pointer (some ⟨R, 0, none⟩), jv, .bool al, .int .i64 ep, .slice v.a1 v.n1 v.c1, .slice v.a2 v.n2 v.c2, .bool mb, .int .i64 v.e3, .slice v.a3 v.n3 v.c3, .slice v.a4 v.n4 v.c4]
theorem blk_range {G : Nat} {ty : TypeId} {cs vs : List Value} {w : World} (h : Blk G ty cs w) (o : Nat) (hv : (cs.drop o).take vs.length = vs) : w.rangeAt G o vs := fun j u hu => by
  refine h.cell (o + j) u ?_
  rw [← hv, List.getElem?_take] at hu
  split at hu
  · rwa [List.getElem?_drop] at hu
  · cases hu
/-- The book at B: its disk, its two states. -/
structure BI (w0 : World) (R B : Nat) (S : Nat → Prop) (t : Dk) (jv : Value) (al mb : Bool) (s s' : Stt) (v : Bv) (w : World) : Prop where
  d : DkAt R S t w
  b : Blk B 56 (bkC R jv al (s.ep : Int) mb v) w
  nB : ¬ S B
  sS : ∀ g, S g → w0.heap.size ≤ g
  sB : w0.heap.size ≤ B
  bl : Below w0.heap.size w0 w
  i1 : Inp w0 (.slice v.a1 v.n1 v.c1) s.sn
  l1 : LstV w0 w0.heap.size w (.slice v.a2 v.n2 v.c2) s.rs
  p1 : ∀ g, (Value.slice v.a2 v.n2 v.c2).ownBlock = some g → ¬ S g
  tt : mb = true → v.e3 = (s'.ep : Int) ∧ Inp w0 (.slice v.a3 v.n3 v.c3) s'.sn ∧ LstV w0 w0.heap.size w (.slice v.a4 v.n4 v.c4) s'.rs ∧ ∀ g, (Value.slice v.a4 v.n4 v.c4).ownBlock = some g → ¬ S g
theorem blk_ne {G H : Nat} {ty ty' : TypeId} {cs cs' : List Value} {w : World} (h : Blk G ty cs w) (h' : Blk H ty' cs' w) (he : ty ≠ ty') : G ≠ H := fun e => by
  have h1 : w.heap[G]? = _ := h
  have h2 : w.heap[H]? = _ := h'
  rw [e, h2] at h1
  injection h1 with h1
  injection h1 with _ h1
  exact he h1.symm
/-- A list's block is no other thing's. -/
theorem LstV.ne {w0 : World} {base : Nat} {w : World} {v : Value} {ps : List (List Nat)} (h : LstV w0 base w v ps) {G : Nat} {ty : TypeId} {cs : List Value} (hb : Blk G ty cs w) (he : ty ≠ 22) : v.ownBlock ≠ some G := by
  obtain ⟨vs, r, -⟩ := h.row
  intro e
  rcases r.2 with ⟨rfl, _⟩ | ⟨g2, cap2, cur2, rfl, _, hh2, _⟩
  · simp [Value.ownBlock] at e
  · simp only [Value.ownBlock, Option.some.injEq] at e
    subst e
    have hb' : w.heap[g2]? = _ := hb
    rw [hb'] at hh2
    injection hh2 with hh2
    injection hh2 with _ hh2
    exact he hh2
theorem LstV.kpx {w0 : World} {base : Nat} {w w' : World} {v : Value} {ps : List (List Nat)} {M : Nat → Prop} (h : LstV w0 base w v ps) (k : Kp M w w') (hm : ∀ g, v.ownBlock = some g → ¬ M g) : LstV w0 base w' v ps := by
  obtain ⟨vs, h1, h2, h3⟩ := h.row
  exact ⟨vs, RowV.kp h1 k hm, h2, h3⟩
theorem LstV.lt {w0 : World} {base : Nat} {w : World} {v : Value} {ps : List (List Nat)} (h : LstV w0 base w v ps) {g : Nat} (hg : v.ownBlock = some g) : g < w.heap.size := by
  obtain ⟨vs, h1, -⟩ := h.row
  exact RowV.block_lt h1 hg
section
variable {w0 w w' : World} {R B : Nat} {S : Nat → Prop} {t : Dk} {jv : Value} {al mb : Bool} {s s' : Stt} {v : Bv}
theorem BI.later (h : BI w0 R B S t jv al mb s s' v w) (hb : Below w.heap.size w w') : BI w0 R B S t jv al mb s s' v w' :=
  ⟨h.d.below hb, h.b.below hb, h.nB, h.sS, h.sB, below_trans h.bl hb, h.i1, h.l1.later hb, h.p1, fun e => ⟨(h.tt e).1, (h.tt e).2.1, (h.tt e).2.2.1.later hb, (h.tt e).2.2.2⟩⟩
/-- A cell of the book written. -/
theorem BI.put (h : BI w0 R B S t jv al mb s s' v w) {jv' : Value} {al' mb' : Bool} (i : Nat) (u : Value) (hc : (bkC R jv al (s.ep : Int) mb v).set i u = bkC R jv' al' (s.ep : Int) mb' v) (hm : mb' = true → mb = true) : BI w0 R B S t jv' al' mb' s s' v (w.setCell ⟨B, i, none⟩ u) := by
  have kk := setCell_kp w B i u
  have n1 : ∀ {x : Value} {ps : List (List Nat)}, LstV w0 w0.heap.size w x ps → LstV w0 w0.heap.size (w.setCell ⟨B, i, none⟩ u) x ps := fun l => l.kpx kk (fun g hg e => l.ne h.b (by decide) (e ▸ hg))
  exact ⟨h.d.kp kk (fun g hg e => h.nB (e ▸ hg)), hc ▸ h.b.set u, h.nB, h.sS, h.sB, Kp.over h.bl kk (fun g e => e ▸ h.sB), h.i1, n1 h.l1, h.p1, fun e => ⟨(h.tt (hm e)).1, (h.tt (hm e)).2.1, n1 (h.tt (hm e)).2.2.1, (h.tt (hm e)).2.2.2⟩⟩
/-- The disk at work. -/
theorem BI.disk (h : BI w0 R B S t jv al mb s s' v w) {S' : Nat → Prop} {t' : Dk} {M : Nat → Prop} (d : DkAt R S' t' w') (g1 : ∀ g, S' g → S g ∨ w.heap.size ≤ g) (k : Kp M w w') (hM : ∀ g, M g → S g ∨ (w0.heap.size ≤ g ∧ g ≠ B ∧ (Value.slice v.a2 v.n2 v.c2).ownBlock ≠ some g ∧ (mb = true → (Value.slice v.a4 v.n4 v.c4).ownBlock ≠ some g))) : BI w0 R B S' t' jv al mb s s' v w' := by
  have lt := h.b.lt
  have sz := h.bl.size
  have nM : ∀ g, M g → w0.heap.size ≤ g := fun g hg => (hM g hg).elim (h.sS g) (fun x => x.1)
  refine ⟨d, h.b.kp k (fun e => (hM B e).elim h.nB (fun x => x.2.1 rfl)), fun hs => (g1 B hs).elim h.nB (fun x => by omega), fun g hg => (g1 g hg).elim (h.sS g) (fun x => by omega), h.sB, Kp.over h.bl k nM, h.i1, h.l1.kpx k (fun g hg e => (hM g e).elim (h.p1 g hg) (fun x => x.2.2.1 hg)), fun g hg hs => (g1 g hs).elim (h.p1 g hg) (fun x => by have := h.l1.lt hg; omega), fun e' => ?_⟩
  obtain ⟨x1, x2, x3, x4⟩ := h.tt e'
  exact ⟨x1, x2, x3.kpx k (fun g hg e => (hM g e).elim (x4 g hg) (fun x => x.2.2.2 e' hg)), fun g hg hs => (g1 g hs).elim (x4 g hg) (fun x => by have := x3.lt hg; omega)⟩
/-- The book written anew. -/
theorem BI.mk2 (h : BI w0 R B S t jv al mb s s' v w) {jv' : Value} {al' mb' : Bool} {s1 s2 : Stt} {v' : Bv} (kk : Kp (fun g => g = B) w w') (G : Blk B 56 (bkC R jv' al' (s1.ep : Int) mb' v') w') (i1 : Inp w0 (.slice v'.a1 v'.n1 v'.c1) s1.sn) (l1 : LstV w0 w0.heap.size w (.slice v'.a2 v'.n2 v'.c2) s1.rs) (p1 : ∀ g, (Value.slice v'.a2 v'.n2 v'.c2).ownBlock = some g → ¬ S g)
    (tt : mb' = true → v'.e3 = (s2.ep : Int) ∧ Inp w0 (.slice v'.a3 v'.n3 v'.c3) s2.sn ∧ LstV w0 w0.heap.size w (.slice v'.a4 v'.n4 v'.c4) s2.rs ∧ ∀ g, (Value.slice v'.a4 v'.n4 v'.c4).ownBlock = some g → ¬ S g) : BI w0 R B S t jv' al' mb' s1 s2 v' w' := by
  have n1 : ∀ {x : Value} {ps : List (List Nat)}, LstV w0 w0.heap.size w x ps → LstV w0 w0.heap.size w' x ps := fun l => l.kpx kk (fun g hg e => l.ne h.b (by decide) (e ▸ hg))
  exact ⟨h.d.kp kk (fun g hg e => h.nB (e ▸ hg)), G, h.nB, h.sS, h.sB, Kp.over h.bl kk (fun g e => e ▸ h.sB), i1, n1 l1, p1, fun e => ⟨(tt e).1, (tt e).2.1, n1 (tt e).2.2.1, (tt e).2.2.2⟩⟩
/-- The state that may be becomes the state. -/
theorem BI.swap (h : BI w0 R B S t jv al true s s' v w) (G : Blk B 56 (bkC R jv al (s'.ep : Int) true ⟨v.a3, v.n3, v.c3, v.a4, v.n4, v.c4, v.e3, v.a3, v.n3, v.c3, v.a4, v.n4, v.c4⟩) w') (g : w.grownBy w' (some B)) : BI w0 R B S t jv al true s' s' ⟨v.a3, v.n3, v.c3, v.a4, v.n4, v.c4, v.e3, v.a3, v.n3, v.c3, v.a4, v.n4, v.c4⟩ w' := by
  have kk : Kp (fun g => g = B) w w' := (Kp.of_grown g).mono (fun g _ e => by injection e with e; exact e.symm)
  obtain ⟨x1, x2, x3, x4⟩ := h.tt rfl
  have n1 : ∀ {x : Value} {ps : List (List Nat)}, LstV w0 w0.heap.size w x ps → LstV w0 w0.heap.size w' x ps := fun l => l.kpx kk (fun g hg e => l.ne h.b (by decide) (e ▸ hg))
  exact ⟨h.d.kp kk (fun g hg e => h.nB (e ▸ hg)), G, h.nB, h.sS, h.sB, Kp.over h.bl kk (fun g e => e ▸ h.sB), x2, n1 x3, x4, fun _ => ⟨x1, x2, n1 x3, x4⟩⟩
end
/-- A journal lives. -/
def LV (w0 : World) (R B i M : Nat) (o : List Nat) (q : List (Int × Int)) (wr : Int) (w : World) : Prop := ∃ (S : Nat → Prop) (J f : Nat) (s s' : Stt) (v : Bv), BI w0 R B S (D3 f s.f o q wr false) (.pointer (some ⟨J, 0, none⟩)) true false s s' v w ∧ JA w0 R J S f s o q wr w ∧ w0.heap.size ≤ J ∧ SOk s i M
/-- None lives: what the disk holds. -/
def DD (w0 : World) (R B i M : Nat) (t : Dk) (w : World) : Prop := ∃ (S : Nat → Prop) (jv : Value) (mb : Bool) (s s' : Stt) (v : Bv), BI w0 R B S t jv false mb s s' v w ∧ (Hd3 t s ∨ (mb = true ∧ Hd3 t s')) ∧ SOk s i M ∧ (mb = true → SOk s' i M) ∧ (jv = .pointer none ∨ ∃ J f ep ct, jv = .pointer (some ⟨J, 0, none⟩) ∧ Blk J 72 (jnL R f ep ct true) w ∧ ¬ S J ∧ w0.heap.size ≤ J)
end Go.Proofs.YtcmfehabcklbpaaDoor
