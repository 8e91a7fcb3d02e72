/-
  The book: a list of headers is its owner's: what stands behind the appends, and at the end.
-/
import Derived.Test.YtoijpogadkogcaaGreatBkD
namespace Go.Proofs.YtoijpogadkogcaaGreat
open Go.RowKit
set_option maxRecDepth 100000

theorem Tryz.infoPa : (Tryz.prog.info? 169).map (fun i => (i.zero, i.size, i.bytes)) = some (some (.slice none 0 0), 1, 24) := by kernel_rfl

/-- What stands behind the three appends, and the list of the four. -/
structure StartC (Y base B nA n : Nat) (va vx v0 v1 v2 v3 : Value) (G : Nat → Prop) (w W : World) (S : Nat) : Prop where
  heapY : W.heap[Y]? = some (.cells #[.slice none 0 0, vx, .slice none 0 0, va] 68 (0, 0))
  part : Part W base 169 43 122 2 FC B va nA
  rows : RowIn W 122 2 G v0 n ∧ RowIn W 122 2 G v1 (n + 1) ∧ RowIn W 122 2 G v2 (n + 2) ∧ RowIn W 122 2 G v3 (n + 3)
  sheet : W.heap[S]? = some (.cells #[v0, v1, v2, v3] 43 (0, 0))
  but : But (fun k => v0.ownBlock = some k) w W
  lt : w.heap.size ≤ S

theorem bPairs_start (Y base b B nA n : Nat) (X : ByteArray) (va vx v0 v1 v2 v3 : Value) (xs : List Value) (w wx : World) (hY : w.heap[Y]? = some (.cells #[.slice none 0 0, vx, .slice none 0 0, va] 68 (0, 0)))
    (hP : Part w base 169 43 122 2 FC B va nA) (ho : w.ownsRow B 122 2 v0 n xs) (hB : B ≤ w.heap.size) (hh : Hold b B n X v0 xs w wx)
    (r1 : RowIn wx 122 2 (Gx v0 w) v1 (n + 1)) (r2 : RowIn wx 122 2 (Gx v0 w) v2 (n + 2)) (r3 : RowIn wx 122 2 (Gx v0 w) v3 (n + 3)) :
    StartC Y base B nA n va vx v0 v1 v2 v3 (fun k => (v0.ownBlock = some k ∨ w.heap.size ≤ k) ∧ k ≠ wx.heap.size) w (wx.alloc (.cells #[v0, v1, v2, v3] 43)) wx.heap.size := by
  have r0 : RowIn wx 122 2 (Gx v0 w) v0 n := (RowIn.ofOwns ho (fun k hk => .inl hk)).stepped hh.step
  have hE : Ext wx (wx.alloc (.cells #[v0, v1, v2, v3] 43)) := (Ext.refl wx).alloc _
  have b := (hh.step.trans (Step.ofExt hE)).but
  have hlow : ∀ k, v0.ownBlock = some k → B ≤ k := fun k hk => (ho.lt k hk).1
  have hYlt : Y < w.heap.size := (Array.getElem?_eq_some_iff.1 hY).1
  have into : ∀ {v m}, RowIn wx 122 2 (Gx v0 w) v m → RowIn (wx.alloc (.cells #[v0, v1, v2, v3] 43)) 122 2 (fun k => (v0.ownBlock = some k ∨ w.heap.size ≤ k) ∧ k ≠ wx.heap.size) v m := fun r => (r.inside (fun k hk hG => ⟨hG, by omega⟩)).ext hE
  refine ⟨?_, ?_, ⟨into r0, into r1, into r2, into r3⟩, heap_alloc_new wx _, b, hh.step.but.size⟩
  · rw [b.block Y hYlt (fun e => by obtain ⟨c, hc⟩ := own_ty ho Y e; rw [hY] at hc; simp at hc), hY]
  · refine hP.keeps (fun k cur Ty hk hc _ => ?_) (fun g hv => ?_)
    · exact b.block k (by omega) (fun e => by have := hlow k e; omega)
    · obtain ⟨ys, hy, _⟩ := hP
      have h2 := (hy.lt g hv).2
      refine b.block g h2 (fun e => ?_)
      obtain ⟨c, hc⟩ := own_ty ho g e
      obtain ⟨c', hc'⟩ := own_ty hy g hv
      rw [hc] at hc'
      simp at hc'

theorem StartC.row {Y base B nA n : Nat} {va vx v0 v1 v2 v3 : Value} {G : Nat → Prop} {w W : World} {S : Nat} (h : StartC Y base B nA n va vx v0 v1 v2 v3 G w W S) (j : Nat) (hj : j < 4) : RowIn W 122 2 G (four v0 v1 v2 v3 j) (n + j) := by
  obtain ⟨r0, r1, r2, r3⟩ := h.rows
  match j, hj with
  | 0, _ => exact r0
  | 1, _ => exact r1
  | 2, _ => exact r2
  | 3, _ => exact r3
theorem StartC.at {Y base B nA n : Nat} {va vx v0 v1 v2 v3 : Value} {G : Nat → Prop} {w W : World} {S : Nat} (h : StartC Y base B nA n va vx v0 v1 v2 v3 G w W S) (j : Nat) (hj : j < 4) : W.cell? ⟨S, j, none⟩ = some (four v0 v1 v2 v3 j) := by
  have hs := h.sheet
  match j, hj with
  | 0, _ => simp [World.cell?, hs, four]
  | 1, _ => simp [World.cell?, hs, four]
  | 2, _ => simp [World.cell?, hs, four]
  | 3, _ => simp [World.cell?, hs, four]

theorem bPairs_end (Y base B nA n S : Nat) (va vx v0 v1 v2 v3 v6 : Value) (zs : List Value) (G : Nat → Prop) (w W wr w6 : World) (o : Obj) (hC : StartC Y base B nA n va vx v0 v1 v2 v3 G w W S)
    (hG : G = fun k => (v0.ownBlock = some k ∨ w.heap.size ≤ k) ∧ k ≠ S) (hB : B ≤ w.heap.size) (hM : Marks G (FC nA) W wr) (hF : ∀ j, j < 4 → Full wr 122 2 (FC nA) G (four v0 v1 v2 v3 j) (n + j))
    (hYr : wr.heap[Y]? = some (.cells #[.slice none 0 0, vx, .slice none 0 0, va] 68 (0, 0))) (hown : wr.ownsRow base 169 1 va nA zs) (hs : ∀ i, i < nA → ∃ S, zs[i]? = some S ∧ Sheet wr 43 122 2 (FC i) B S)
    (h6 : w6.ownsRow base 169 1 v6 (nA + 1) (zs ++ [.slice (some ⟨S, 0, none⟩) 4 4])) (hg : Grew (wr.alloc o) va w6 v6) :
    (w6.setCell ⟨Y, 3, none⟩ v6).heap[Y]? = some (.cells #[.slice none 0 0, vx, .slice none 0 0, v6] 68 (0, 0)) ∧ Part (w6.setCell ⟨Y, 3, none⟩ v6) base 169 43 122 2 FC (w6.setCell ⟨Y, 3, none⟩ v6).heap.size v6 (nA + 1) ∧
      But (fun k => k = Y ∨ va.ownBlock = some k ∨ v0.ownBlock = some k) w (w6.setCell ⟨Y, 3, none⟩ v6) := by
  have hYlt : Y < wr.heap.size := (Array.getElem?_eq_some_iff.1 hYr).1
  have keep6 : ∀ k, k < wr.heap.size → va.ownBlock ≠ some k → w6.heap[k]? = wr.heap[k]? := fun k hk hne => by
    rw [hg.grown.block k (by simp; omega) (Ne.symm hne)]
    exact Below.heap_alloc wr o k hk
  have hvaY : va.ownBlock ≠ some Y := fun e => by obtain ⟨c, hc⟩ := own_ty hown Y e; rw [hYr] at hc; simp at hc
  have hY6 : w6.heap[Y]? = some (.cells #[.slice none 0 0, vx, .slice none 0 0, va] 68 (0, 0)) := (keep6 Y hYlt hvaY).trans hYr
  have keepF : ∀ k, k < wr.heap.size → k ≠ Y → va.ownBlock ≠ some k → (w6.setCell ⟨Y, 3, none⟩ v6).heap[k]? = wr.heap[k]? := fun k hk hkY hne => by
    rw [Below.heap_setCell w6 _ _ k hkY, keep6 k hk hne]
  have hsz6 : wr.heap.size ≤ w6.heap.size := by have := hg.grown.size; simp at this; omega
  have hsz7 : (w6.setCell ⟨Y, 3, none⟩ v6).heap.size = w6.heap.size := by simp
  have hK : Keeps 43 122 wr.heap.size wr (w6.setCell ⟨Y, 3, none⟩ v6) := fun k cur Ty hk hc ht => by
    refine keepF k hk (fun e => ?_) (fun e => ?_)
    · subst e; rw [hYr] at hc; simp only [Option.some.injEq, Obj.cells.injEq] at hc; rcases ht with rfl | rfl <;> simp at hc
    · obtain ⟨c, hc'⟩ := own_ty hown k e; rw [hc] at hc'; simp only [Option.some.injEq, Obj.cells.injEq] at hc'; rcases ht with rfl | rfl <;> simp at hc'
  have hMs := hM.size
  have hWs := hC.but.size
  have hSr : wr.heap[S]? = some (.cells #[v0, v1, v2, v3] 43 (0, 0)) := (hM.other S (by rw [hG]; simp)).trans hC.sheet
  have hSlt : S < wr.heap.size := (Array.getElem?_eq_some_iff.1 hSr).1
  refine ⟨?_, ?_, ?_⟩
  · have := heap_setCell_at (w := w6) (g := Y) (o := 3) (u := v6) hY6
    rw [this]
    rfl
  · refine ⟨_, ⟨h6.1, ?_⟩, fun i hi => ?_⟩
    · rcases h6.2 with h | ⟨g, cap, cur, h1, h2, h3, h4⟩
      · exact .inl h
      · refine .inr ⟨g, cap, cur, h1, h2, ?_, h4⟩
        rw [Below.heap_setCell w6 _ _ g (fun e => by simp only at e; subst e; rw [hY6] at h3; simp at h3)]
        exact h3
    · have hzl : zs.length = nA := by have := hown.1; omega
      by_cases e : i < nA
      · obtain ⟨S', h1, h2⟩ := hs i e
        refine ⟨S', by rw [List.getElem?_append_left (by omega)]; exact h1, ?_⟩
        have h3 : Sheet wr 43 122 2 (FC i) wr.heap.size S' := h2.mono (by omega)
        exact (h3.keeps hK).mono (by omega)
      · obtain rfl : i = nA := by omega
        refine ⟨.slice (some ⟨S, 0, none⟩) 4 4, by rw [List.getElem?_append_right (by omega)]; simp [hzl], ?_⟩
        exact ⟨S, v0, v1, v2, v3, rfl, by omega, (hK S _ 43 hSlt hSr (.inl rfl)).trans hSr, (hC.row 0 (by omega) |> fun r => Full.marked r (hF 0 (by omega)) (by omega) hK), (hC.row 1 (by omega) |> fun r => Full.marked r (hF 1 (by omega)) (by omega) hK), (hC.row 2 (by omega) |> fun r => Full.marked r (hF 2 (by omega)) (by omega) hK), (hC.row 3 (by omega) |> fun r => Full.marked r (hF 3 (by omega)) (by omega) hK)⟩
  · refine ⟨hg.grown.os.trans (hM.os.trans hC.but.os), hg.grown.tape.trans (hM.tape.trans hC.but.tape), hg.grown.output.trans (hM.output.trans hC.but.output), by omega, fun k hk hx => ?_⟩
    have hkr : k < wr.heap.size := by omega
    rw [keepF k hkr (fun e => hx (.inl e)) (fun e => hx (.inr (.inl e))), hM.other k (by rw [hG]; rintro ⟨h | h, _⟩; exact hx (.inr (.inr h)); omega), hC.but.block k hk (fun e => hx (.inr (.inr e)))]

end Go.Proofs.YtoijpogadkogcaaGreat
