/-
  Ours: loans and portfolios as they lie, told (gen_wst5.py).
-/
import Derived.Test.YtdbjjeaflfoppaaWirStE4
namespace Go.Proofs.Ytdbjjeaflfoppaa
open Go.RowKit WsM

namespace WsM
def insL (i : Ins) : List Value := [.int .i64 i.due, .int .i64 i.it, .int .i64 i.pr, .bool i.mr]
def ntL (n : Nt) : List Value := [.int .i64 (n.f.getD 0 0), .int .i64 (n.f.getD 1 0), .int .i64 (n.f.getD 2 0), .int .i64 (n.f.getD 3 0), .int .i64 (n.f.getD 4 0), .bool n.ak]
/-- A loan's 46 cells; pv: its plan. -/
def lnL (l : Ln) (pv : Value) : List Value := [.int .i64 l.id, .int .i64 (l.tm.getD 0 0), .int .i64 (l.tm.getD 1 0), .int .i64 (l.tm.getD 2 0), .int .i64 (l.tm.getD 3 0), .int .i64 (l.tm.getD 4 0), .int .i64 (l.tm.getD 5 0), pv, .int .i64 (l.bk.getD 0 0), .int .i64 (l.bk.getD 1 0), .int .i64 (l.bk.getD 2 0), .int .i64 (l.bk.getD 3 0), .int .i64 (l.bk.getD 4 0), .int .i64 (l.bk.getD 5 0), .int .i64 (l.bk.getD 6 0), .int .i64 (l.bk.getD 7 0), .int .i64 (l.bk.getD 8 0), .int .i64 (l.bk.getD 9 0), .int .i64 (l.bk.getD 10 0), .int .i64 (l.bk.getD 11 0), .int .i64 l.st, .bool l.su, .int .i64 (l.cs.getD 0 0), .int .i64 (l.cs.getD 1 0), .int .i64 (l.cs.getD 2 0), .int .i64 (l.cs.getD 3 0), .int .i64 (l.cs.getD 4 0), .int .i64 (l.cs.getD 5 0), .int .i64 (l.cs.getD 6 0), .int .i64 (l.cs.getD 7 0), .int .i64 (l.cs.getD 8 0), .int .i64 (l.cs.getD 9 0), .int .i64 (l.cs.getD 10 0), .int .i64 (l.cs.getD 11 0), .int .i64 (l.cs.getD 12 0), .int .i64 (l.d3.getD 0 0), .int .i64 (l.d3.getD 1 0), .int .i64 (l.d3.getD 2 0), .int .i64 (l.la.getD 0 0), .int .i64 (l.la.getD 1 0), .int .i64 (l.la.getD 2 0), .int .i64 (l.la.getD 3 0), .int .i64 (l.la.getD 4 0), .bool l.hl, .int .i64 (l.c2.getD 0 0), .int .i64 (l.c2.getD 1 0)]
def ln0 : Ln := ⟨0, [], [], [], 0, false, [], [], [], false, []⟩
theorem g2 {l : List Int} (h : l.length = 2) : [l.getD 0 0, l.getD 1 0] = l := by
  match l, h with
  | [a0, a1], _ => rfl
theorem g3 {l : List Int} (h : l.length = 3) : [l.getD 0 0, l.getD 1 0, l.getD 2 0] = l := by
  match l, h with
  | [a0, a1, a2], _ => rfl
theorem g5 {l : List Int} (h : l.length = 5) : [l.getD 0 0, l.getD 1 0, l.getD 2 0, l.getD 3 0, l.getD 4 0] = l := by
  match l, h with
  | [a0, a1, a2, a3, a4], _ => rfl
theorem g6 {l : List Int} (h : l.length = 6) : [l.getD 0 0, l.getD 1 0, l.getD 2 0, l.getD 3 0, l.getD 4 0, l.getD 5 0] = l := by
  match l, h with
  | [a0, a1, a2, a3, a4, a5], _ => rfl
theorem g12 {l : List Int} (h : l.length = 12) : [l.getD 0 0, l.getD 1 0, l.getD 2 0, l.getD 3 0, l.getD 4 0, l.getD 5 0, l.getD 6 0, l.getD 7 0, l.getD 8 0, l.getD 9 0, l.getD 10 0, l.getD 11 0] = l := by
  match l, h with
  | [a0, a1, a2, a3, a4, a5, a6, a7, a8, a9, a10, a11], _ => rfl
theorem g13 {l : List Int} (h : l.length = 13) : [l.getD 0 0, l.getD 1 0, l.getD 2 0, l.getD 3 0, l.getD 4 0, l.getD 5 0, l.getD 6 0, l.getD 7 0, l.getD 8 0, l.getD 9 0, l.getD 10 0, l.getD 11 0, l.getD 12 0] = l := by
  match l, h with
  | [a0, a1, a2, a3, a4, a5, a6, a7, a8, a9, a10, a11, a12], _ => rfl
end WsM
/-- Loans that lie behind the slice v; each one's plan lies behind a slice of its own. -/
def RdLs (w : World) (v : Value) (ls : List Ln) : Prop := ∃ pvs : List Value, pvs.length = ls.length ∧ RdS 46 w v (List.zipWith lnL ls pvs) ∧ ∀ i, i < ls.length → RdS 4 w (pvs.getD i .nilFunc) ((ls.getD i ln0).pl.map insL)
structure RdPo (w : World) (vl vn : Value) (p : Po) : Prop where
  ls : RdLs w vl p.ls
  ns : RdS 6 w vn (p.ns.map ntL)
theorem RdLs.later {w w' : World} {v : Value} {ls : List Ln} (h : RdLs w v ls) (hb : Below w.heap.size w w') : RdLs w' v ls := by
  obtain ⟨pvs, h1, h2, h3⟩ := h
  exact ⟨pvs, h1, h2.later hb, fun i hi => (h3 i hi).later hb⟩
theorem RdPo.later {w w' : World} {vl vn : Value} {p : Po} (h : RdPo w vl vn p) (hb : Below w.heap.size w w') : RdPo w' vl vn p := ⟨h.ls.later hb, h.ns.later hb⟩
theorem RdS.one {K : Nat} {w : World} {v : Value} {cs : List (List Value)} (h : RdS K w v cs) : v.oneCell' = true := by
  obtain ⟨_, _, rfl, _⟩ := h; rfl
theorem getD_at {α : Type} {l : List α} {d : α} {i : Nat} (h : i < l.length) : l.getD i d = l[i] := by rw [List.getD_eq_getElem?_getD, List.getElem?_eq_getElem h]; rfl
theorem getD_map {α β : Type} {f : α → β} {l : List α} {d : α} {e : β} {i : Nat} (h : i < l.length) : (l.map f).getD i e = f (l.getD i d) := by
  rw [getD_at (by simpa using h), getD_at h, List.getElem_map]
theorem getD_mem {α : Type} {l : List α} {d : α} {i : Nat} (h : i < l.length) : l.getD i d ∈ l := by rw [getD_at h]; exact List.getElem_mem _
theorem getD_zip {ls : List Ln} {pvs : List Value} {i : Nat} (h : i < ls.length) (hl : pvs.length = ls.length) : (List.zipWith lnL ls pvs).getD i [] = lnL (ls.getD i ln0) (pvs.getD i .nilFunc) := by
  rw [getD_at (by simp; omega), getD_at h, getD_at (by omega), List.getElem_zipWith]
theorem insL_one (i : Ins) : (insL i).length = 4 ∧ ∀ u ∈ insL i, u.oneCell' = true := ⟨rfl, fun u hu => by
  simp [insL] at hu
  rcases hu with rfl | rfl | rfl | rfl <;> rfl⟩
theorem ntL_one (n : Nt) : (ntL n).length = 6 ∧ ∀ u ∈ ntL n, u.oneCell' = true := ⟨rfl, fun u hu => by
  simp only [ntL, List.mem_cons, List.not_mem_nil, or_false] at hu
  rcases hu with rfl | rfl | rfl | rfl | rfl | rfl <;> rfl⟩
theorem lnL_one {l : Ln} {pv : Value} (hp : pv.oneCell' = true) : (lnL l pv).length = 46 ∧ ∀ u ∈ lnL l pv, u.oneCell' = true := ⟨rfl, fun u hu => by
  simp only [lnL, List.mem_cons, List.not_mem_nil, or_false] at hu
  rcases hu with rfl | rfl | rfl | rfl | rfl | rfl | rfl | rfl | rfl | rfl | rfl | rfl | rfl | rfl | rfl | rfl | rfl | rfl | rfl | rfl | rfl | rfl | rfl | rfl | rfl | rfl | rfl | rfl | rfl | rfl | rfl | rfl | rfl | rfl | rfl | rfl | rfl | rfl | rfl | rfl | rfl | rfl | rfl | rfl | rfl | rfl <;> first | rfl | exact hp⟩
theorem flat_len {α : Type} {f : α → List Nat} {xs : List α} {x : α} (h : x ∈ xs) : (f x).length ≤ (xs.flatMap f).length := by
  obtain ⟨s, t, rfl⟩ := List.append_of_mem h
  simp; omega
theorem flatten_map {α : Type} (f : α → List Nat) (xs : List α) : (xs.map f).flatten = xs.flatMap f := by simp [List.flatMap]
theorem putIns_yes (i : Ins) (ok : i.Ok) (W : World) : Calls Try.prog 57 #[.agg (insL i).toArray] W (NewB W (insB i)) := by
  have h := putIns_at i.due i.it i.pr i.mr W ok.f
  have e : List.flatten [putFs [i.due, i.it, i.pr], putB i.mr] = insB i := by simp [insB]
  rw [e] at h
  exact h
theorem plan_at (is : List Ins) (ok : ∀ i ∈ is, i.Ok) (v : Value) (w : World) (h : RdS 4 w v (is.map insL)) (hn : is.length ≤ 1000000000000) (hl : (is.flatMap insB).length ≤ 1000000000000) :
    Calls Try.prog 56 #[v, .func (.func 57) #[] #[]] w (NewB w (plB is)) := by
  have := putListIns_at (is.map insL) (is.map insB) v w h (fun c hc => by obtain ⟨i, _, rfl⟩ := List.mem_map.1 hc; exact insL_one i) (by simp) (by simpa using hn) (by rw [flatten_map]; exact hl) (fun i hi W _ => by
    have hi' : i < is.length := by simpa using hi
    rw [getD_map (d := ⟨0, 0, 0, false⟩) hi', getD_map (d := ⟨0, 0, 0, false⟩) hi']
    exact putIns_yes _ (ok _ (getD_mem hi')) W)
  rw [flatten_map, List.length_map] at this
  exact this
theorem putOwed_yes (n : Nt) (ok : n.Ok) (W : World) : Calls Try.prog 42 #[.agg (ntL n).toArray] W (NewB W (owB n)) := by
  have h := putOwed_at (n.f.getD 0 0) (n.f.getD 1 0) (n.f.getD 2 0) (n.f.getD 3 0) (n.f.getD 4 0) n.ak W (by rw [g5 ok.fL]; exact ok.f)
  rw [g5 ok.fL] at h
  have e : List.flatten [putFs n.f, putB n.ak] = owB n := by simp [owB, ntB]
  rw [e] at h
  exact h
theorem encNotice_yes (n : Nt) (ok : n.Ok) (W : World) : Calls Try.prog 12 #[.agg (ntL n).toArray] W (NewB W (ntB n)) := by
  have h := encNotice_at (n.f.getD 0 0) (n.f.getD 1 0) (n.f.getD 2 0) (n.f.getD 3 0) (n.f.getD 4 0) n.ak (by rw [g5 ok.fL]; exact ok.f) W
  rw [g5 ok.fL] at h
  exact h
theorem notices_at (ns : List Nt) (ok : ∀ n ∈ ns, n.Ok) (v : Value) (w : World) (h : RdS 6 w v (ns.map ntL)) (hn : ns.length ≤ 1000000000000) (hl : (ns.flatMap owB).length ≤ 1000000000000) :
    Calls Try.prog 41 #[v, .func (.func 42) #[] #[]] w (NewB w (put ns.length ++ ns.flatMap owB)) := by
  have := putListNt_at (ns.map ntL) (ns.map owB) v w h (fun c hc => by obtain ⟨i, _, rfl⟩ := List.mem_map.1 hc; exact ntL_one i) (by simp) (by simpa using hn) (by rw [flatten_map]; exact hl) (fun i hi W _ => by
    have hi' : i < ns.length := by simpa using hi
    rw [getD_map (d := ⟨[], false⟩) hi', getD_map (d := ⟨[], false⟩) hi']
    exact putOwed_yes _ (ok _ (getD_mem hi')) W)
  rw [flatten_map, List.length_map] at this
  exact this
/-- A loan is told. -/
theorem encLoan_at (l : Ln) (ok : l.Ok) (pv : Value) (w : World) (h : RdS 4 w pv (l.pl.map insL)) (hn : l.pl.length ≤ 1000000000000) (hl : (lnB l).length ≤ 400000000000) :
    Calls Try.prog 23 #[.agg (lnL l pv).toArray] w (NewB w (lnB l)) := by
  obtain ⟨pa, pc, rfl, -, -⟩ := h.len
  have hp : (plB l.pl).length ≤ 400000000000 := by
    have e : (lnB l).length = (putI l.id).length + ((putFs l.tm).length + ((plB l.pl).length + ((putFs l.bk).length + ((csB l).length + ((putFs l.d3).length + ((putFs l.la).length + ((putB l.hl).length + (putFs l.c2).length))))))) := by unfold lnB; simp only [List.length_append]
    omega
  have hp2 : (l.pl.flatMap insB).length ≤ 400000000000 := by unfold plB at hp; rw [List.length_append] at hp; omega
  have h := encLoanL_at l.id (l.tm.getD 0 0) (l.tm.getD 1 0) (l.tm.getD 2 0) (l.tm.getD 3 0) (l.tm.getD 4 0) (l.tm.getD 5 0) pa _ pc (l.bk.getD 0 0) (l.bk.getD 1 0) (l.bk.getD 2 0) (l.bk.getD 3 0) (l.bk.getD 4 0) (l.bk.getD 5 0) (l.bk.getD 6 0) (l.bk.getD 7 0) (l.bk.getD 8 0) (l.bk.getD 9 0) (l.bk.getD 10 0) (l.bk.getD 11 0) l.st l.su (l.cs.getD 0 0) (l.cs.getD 1 0) (l.cs.getD 2 0) (l.cs.getD 3 0) (l.cs.getD 4 0) (l.cs.getD 5 0) (l.cs.getD 6 0) (l.cs.getD 7 0) (l.cs.getD 8 0) (l.cs.getD 9 0) (l.cs.getD 10 0) (l.cs.getD 11 0) (l.cs.getD 12 0) (l.d3.getD 0 0) (l.d3.getD 1 0) (l.d3.getD 2 0) (l.la.getD 0 0) (l.la.getD 1 0) (l.la.getD 2 0) (l.la.getD 3 0) (l.la.getD 4 0) l.hl (l.c2.getD 0 0) (l.c2.getD 1 0) (plB l.pl) w ok.id (by rw [g6 ok.tmL]; exact ok.tm) (fun W hb => plan_at l.pl ok.pl _ W (h.later hb) hn (by omega)) (by omega) (by rw [g12 ok.bkL]; exact ok.bk) ok.st (by rw [g13 ok.csL]; exact ok.cs) (by rw [g3 ok.d3L]; exact ok.d3) (by rw [g5 ok.laL]; exact ok.la) (by rw [g2 ok.c2L]; exact ok.c2)
  rw [g6 ok.tmL, g12 ok.bkL, g13 ok.csL, g3 ok.d3L, g5 ok.laL, g2 ok.c2L] at h
  have e : List.flatten [putI l.id, putFs l.tm, plB l.pl, putFs l.bk, List.flatten [putI l.st, putB l.su, putFs l.cs], putFs l.d3, putFs l.la, putB l.hl, putFs l.c2] = lnB l := by simp [lnB, csB]
  rw [e] at h
  exact h
/-- A portfolio is told. -/
theorem encState_at (p : Po) (ok : p.Ok) (vl vn : Value) (w : World) (h : RdPo w vl vn p) (hn : p.ls.length ≤ 1000000000000) (hm : p.ns.length ≤ 1000000000000) (hk : ∀ l ∈ p.ls, l.pl.length ≤ 1000000000000) (hl : (poB p).length ≤ 400000000000) :
    Calls Try.prog 13 #[.agg #[.int .i64 p.td, vl, vn]] w (NewB w (poB p)) := by
  obtain ⟨hls, hns⟩ := h
  obtain ⟨na, nc, rfl, -, -⟩ := hns.len
  have LQ : (poB p).length = (putI p.td).length + (((put p.ls.length).length + (p.ls.flatMap lnB).length) + ((put p.ns.length).length + (p.ns.flatMap owB).length)) := by unfold poB; simp only [List.length_append]
  have hL : ∀ W, Below w.heap.size w W → Calls Try.prog 40 #[vl, .func (.func 23) #[] #[]] W (NewB W (put p.ls.length ++ p.ls.flatMap lnB)) := fun W hb => by
    obtain ⟨pvs, h1, h2, h3⟩ := hls.later hb
    have := putListLn_at (List.zipWith lnL p.ls pvs) (p.ls.map lnB) vl W h2 (fun c hc => by
      obtain ⟨i, hi, rfl⟩ := List.getElem_of_mem hc
      have hi1 : i < p.ls.length := by simp at hi; omega
      have e := getD_zip hi1 h1
      rw [getD_at hi] at e
      rw [e]
      exact lnL_one (h3 i hi1).one) (by simp; omega) (by simp; omega) (by rw [flatten_map]; omega) (fun i hi W' hb' => by
      have hi1 : i < p.ls.length := by simp at hi; omega
      rw [getD_zip hi1 h1, getD_map (d := ln0) hi1]
      have hm := getD_mem (d := ln0) hi1
      exact encLoan_at _ (ok.ls _ hm) _ W' ((h3 i hi1).later hb') (hk _ hm) (by have := flat_len (f := lnB) hm; omega))
    rw [flatten_map] at this
    rw [show (List.zipWith lnL p.ls pvs).length = p.ls.length from by simp; omega] at this
    exact this
  obtain ⟨pvs, h1, h2, -⟩ := hls
  obtain ⟨la, lc, rfl, -, -⟩ := h2.len
  have h := encStateL_at p.td la _ lc na _ nc (put p.ls.length ++ p.ls.flatMap lnB) (put p.ns.length ++ p.ns.flatMap owB) w ok.td hL (fun W hb => notices_at p.ns ok.ns _ W (hns.later hb) hm (by omega)) (by rw [List.length_append]; omega) (by rw [List.length_append]; omega)
  have e : List.flatten [putI p.td, put p.ls.length ++ p.ls.flatMap lnB, put p.ns.length ++ p.ns.flatMap owB] = poB p := by simp [poB]
  rw [e] at h
  exact h
end Go.Proofs.Ytdbjjeaflfoppaa
