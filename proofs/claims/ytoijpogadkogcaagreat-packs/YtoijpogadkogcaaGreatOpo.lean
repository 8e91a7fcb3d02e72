/-
  A script that is handed in, opened step by step.
-/
import Derived.Test.YtoijpogadkogcaaGreatOpn
namespace Go.Proofs.YtoijpogadkogcaaGreat
open Go.ChangeShapes Go.WideShapes Go.ChangeAt Go.RowKit Go.Deep
set_option maxRecDepth 100000

section
variable {H : Type} {enc : TypeId × Value → H} {w : World} {base : Nat} {held : Bool}

theorem cells_six {a : Addr} {cs : List Value} (h : w.cells? base a 6 = some cs) : ∃ x0 x1 x2 x3 x4 x5, cs = [x0, x1, x2, x3, x4, x5] ∧ w.cell? a = some x0 ∧ w.cell? (a.add 1) = some x1 ∧ w.cell? (a.add 2) = some x2 ∧ w.cell? (a.add 3) = some x3 ∧ w.cell? (a.add 4) = some x4 ∧ w.cell? (a.add 5) = some x5 := by
  obtain ⟨_, h1, h2⟩ := World.cells?_some h
  match cs, h1 with
  | [x0, x1, x2, x3, x4, x5], _ =>
    exact ⟨x0, x1, x2, x3, x4, x5, rfl, by simpa [Addr.add] using h2 0 (by decide), h2 1 (by decide), h2 2 (by decide), h2 3 (by decide), h2 4 (by decide), h2 5 (by decide)⟩

theorem each_mem {P : Program} {R : Nat} : ∀ {ts : List TypeId} {ds : List (DataW H)} {j : Nat} {t : TypeId} {d : DataW H}, ts[j]? = some t → ds[j]? = some d → (DataW.weightsEach P ts ds).all (· ≤ R) = true → (d.weights P t).all (· ≤ R) = true := by
  intro ts ds j t d ht hd h
  rw [List.all_eq_true] at h ⊢
  exact fun n hn => h n (DataW.weights_mem_each ht hd n hn)
theorem all_mem {P : Program} {R : Nat} {e : TypeId} : ∀ {ds : List (DataW H)} {d : DataW H}, d ∈ ds → (DataW.weightsAll P e ds).all (· ≤ R) = true → (d.weights P e).all (· ≤ R) = true := by
  intro ds
  induction ds with
  | nil => intro d h; cases h
  | cons d0 r ih =>
    intro d hd h
    simp only [DataW.weightsAll, List.all_append, Bool.and_eq_true] at h
    rcases List.mem_cons.1 hd with rfl | hd
    · exact h.1
    · exact ih hd h.2

theorem open_op {fuel : Nat} {cs : List Value} {x : DataW H × List MemPlace} (h : DataW.trod enc Tryz.prog w base (fun _ => true) held fuel 71 cs = some x) (hsz : (x.1.weights Tryz.prog 71).all (· ≤ reachBytes) = true) :
    ∃ (K C A B : Int) (a a' : Option Addr) (cap cap' : Nat) (d : List UInt8) (m : List (List UInt8 × List UInt8)), cs = [.int .i64 K, .int .i64 C, .int .i64 A, .int .i64 B, .slice a d.length cap, .slice a' m.length cap'] ∧
      IsBytes w (.slice a d.length cap) d ∧ IsPairs w (.slice a' m.length cap') m ∧ d.length ≤ 140737488351232 ∧ m.length ≤ 4398046510976 ∧ ∀ p ∈ m, p.1.length ≤ maxLen ∧ p.2.length ≤ maxLen := by
  obtain ⟨ys, n, _, rfl, hl, hlen, hf⟩ := DataW.trod_struct Tryz.underlying71 h
  have hc : Tryz.prog.cellsOf 71 = 6 := by kernel_rfl
  have c3 : Tryz.prog.cellsOf 3 = 1 := by kernel_rfl
  have cB : Tryz.prog.cellsOf 34 = 1 := by kernel_rfl
  have cP : Tryz.prog.cellsOf 43 = 1 := by kernel_rfl
  rw [hc] at hl
  match cs, hl, ys, hlen with
  | [x0, x1, x2, x3, x4, x5], _, [y0, y1, y2, y3, y4, y5], _ =>
    have f0 : DataW.trod enc Tryz.prog w base (fun _ => true) held n 3 (([x0, x1, x2, x3, x4, x5].drop 0).take (Tryz.prog.cellsOf 3)) = some y0 := hf 0 _ rfl
    rw [c3] at f0
    have f1 : DataW.trod enc Tryz.prog w base (fun _ => true) held n 3 (([x0, x1, x2, x3, x4, x5].drop 1).take (Tryz.prog.cellsOf 3)) = some y1 := hf 1 _ rfl
    rw [c3] at f1
    have f2 : DataW.trod enc Tryz.prog w base (fun _ => true) held n 3 (([x0, x1, x2, x3, x4, x5].drop 2).take (Tryz.prog.cellsOf 3)) = some y2 := hf 2 _ rfl
    rw [c3] at f2
    have f3 : DataW.trod enc Tryz.prog w base (fun _ => true) held n 3 (([x0, x1, x2, x3, x4, x5].drop 3).take (Tryz.prog.cellsOf 3)) = some y3 := hf 3 _ rfl
    rw [c3] at f3
    have f4 : DataW.trod enc Tryz.prog w base (fun _ => true) held n 34 (([x0, x1, x2, x3, x4, x5].drop 4).take (Tryz.prog.cellsOf 34)) = some y4 := hf 4 _ rfl
    rw [cB] at f4
    have f5 : DataW.trod enc Tryz.prog w base (fun _ => true) held n 43 (([x0, x1, x2, x3, x4, x5].drop 5).take (Tryz.prog.cellsOf 43)) = some y5 := hf 5 _ rfl
    rw [cP] at f5
    obtain ⟨K, e0, _, _⟩ := DataW.trod_int Tryz.underlying3 f0
    obtain ⟨C, e1, _, _⟩ := DataW.trod_int Tryz.underlying3 f1
    obtain ⟨A, e2, _, _⟩ := DataW.trod_int Tryz.underlying3 f2
    obtain ⟨B, e3, _, _⟩ := DataW.trod_int Tryz.underlying3 f3
    obtain ⟨a, d, cap, e4, hD, hd⟩ := open_bytes f4
    obtain ⟨a', m, cap', e5, hH, ht, hm⟩ := open_pairs f5
    have g0 : [x0] = [.int .i64 K] := e0
    have g1 : [x1] = [.int .i64 C] := e1
    have g2 : [x2] = [.int .i64 A] := e2
    have g3 : [x3] = [.int .i64 B] := e3
    have g4 : [x4] = [.slice a d.length cap] := e4
    have g5 : [x5] = [.slice a' m.length cap'] := e5
    simp only [List.cons.injEq, and_true] at g0 g1 g2 g3 g4 g5
    subst g0; subst g1; subst g2; subst g3; subst g4; subst g5
    have hw : (DataW.weightsEach Tryz.prog [3, 3, 3, 3, 34, 43] [y0.1, y1.1, y2.1, y3.1, y4.1, y5.1]).all (· ≤ reachBytes) = true := by
      have := hsz
      simp only [DataW.weights, Tryz.underlying71] at this
      exact this
    exact ⟨K, C, A, B, a, a', cap, cap', d, m, rfl, hD, hH, hd (each_mem (j := 4) rfl rfl hw), hm (each_mem (j := 5) rfl rfl hw), ht⟩

theorem open_script {fuel : Nat} {cs : List Value} {x : DataW H × List MemPlace} (h : DataW.trod enc Tryz.prog w base (fun _ => true) held fuel 22 cs = some x) (hsz : (x.1.weights Tryz.prog 22).all (· ≤ reachBytes) = true) :
    ∃ v n, cs = [v] ∧ ScriptIs w v n ∧ n ≤ 1759218604442 := by
  rcases open_slice Tryz.underlying22 h with ⟨rfl, rfl⟩ | ⟨a, len, cap, k, n, D, Pl, rfl, _, h1, h2, hk, rfl, hcell⟩
  · exact ⟨_, 0, rfl, ⟨none, 0, rfl, by simp, by simp [maxLen], .inl rfl⟩, by omega⟩
  · simp only [if_true] at hk
    subst hk
    have hc : Tryz.prog.cellsOf 71 = 6 := by kernel_rfl
    have hb1 : Tryz.prog.bytesOf 71 = 80 := by kernel_rfl
    simp only [DataW.weights, Tryz.underlying22, List.all_cons, List.all_append, Bool.and_eq_true, decide_eq_true_eq, List.length_map, List.length_range, hb1, show reachBytes = 140737488351232 from rfl] at hsz
    obtain ⟨hs1, hs2, _⟩ := hsz
    refine ⟨_, len, rfl, ⟨some a, k, rfl, h1, h2, ?_⟩, by omega⟩
    have hone : ∀ i, i < len → ∃ (K C A B : Int) (sa ha : Option Addr) (c c' : Nat) (d : List UInt8) (m : List (List UInt8 × List UInt8)),
        w.cell? (a.add (i * 6)) = some (.int .i64 K) ∧ w.cell? ((a.add (i * 6)).add 1) = some (.int .i64 C) ∧ w.cell? ((a.add (i * 6)).add 2) = some (.int .i64 A) ∧ w.cell? ((a.add (i * 6)).add 3) = some (.int .i64 B) ∧
        w.cell? ((a.add (i * 6)).add 4) = some (.slice sa d.length c) ∧ w.cell? ((a.add (i * 6)).add 5) = some (.slice ha m.length c') ∧ IsBytes w (.slice sa d.length c) d ∧ IsPairs w (.slice ha m.length c') m ∧
        d.length ≤ 140737488351232 ∧ m.length ≤ 4398046510976 ∧ ∀ p ∈ m, p.1.length ≤ maxLen ∧ p.2.length ≤ maxLen := by
      intro i hi
      obtain ⟨cs', hcs, ht⟩ := hcell i (by omega)
      rw [hc] at hcs
      obtain ⟨K, C, A, B, sa, ha, c, c', d, m, rfl, hD, hH, hd, hm, htx⟩ := open_op ht (all_mem (List.mem_map.2 ⟨i, List.mem_range.2 hi, rfl⟩) hs2)
      obtain ⟨x0, x1, x2, x3, x4, x5, e, q0, q1, q2, q3, q4, q5⟩ := cells_six hcs
      simp only [List.cons.injEq, and_true] at e
      obtain ⟨rfl, rfl, rfl, rfl, rfl, rfl⟩ := e
      exact ⟨K, C, A, B, sa, ha, c, c', d, m, q0, q1, q2, q3, q4, q5, hD, hH, hd, hm, htx⟩
    by_cases h0 : len = 0
    · exact .inl h0
    · right
      obtain ⟨b, o, sp⟩ := a
      obtain ⟨K, _, _, _, _, _, _, _, _, _, hz, _⟩ := hone 0 (by omega)
      have hsp : sp = none := by simpa [Addr.add] using World.cell?_spot hz
      subst hsp
      refine ⟨b, o, rfl, fun i hi => ?_⟩
      have := hone i hi
      simp only [Addr.add_lit] at this
      exact this
end
end Go.Proofs.YtoijpogadkogcaaGreat
