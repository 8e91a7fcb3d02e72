/-
  A script is played: each answer is the document's, and every list stays its owner's.
-/
import Derived.Test.YtoijpogadkogcaaGreatStp
namespace Go.Proofs.YtoijpogadkogcaaGreat
open Go.RowKit
set_option maxRecDepth 100000

def headH : List (List UInt8 × List UInt8) := [([58, 112, 97, 116, 104], [47]), ([120], [49])]

theorem cell_new2 (w : World) (o : Obj) (c : Array Value) (t : TypeId) (j : Nat) (v : Value) (h : c[j]? = some v) : ((w.alloc o).alloc (.cells c t)).cell? ⟨w.heap.size + 1, j, none⟩ = some v := by
  have e : w.heap.size + 1 = (w.alloc o).heap.size := by simp
  have := heap_alloc_new (w.alloc o) (.cells c t)
  rw [← e] at this
  simp only [World.cell?, this]
  simpa using h

set_option maxHeartbeats 3200000 in
theorem head_any (w : World) : Calls Tryz.prog 24 #[] w fun e w' => ∃ hb b, e = .returned (.slice (some ⟨hb, 0, none⟩) 9 9) ∧ Ext w w' ∧ w.heap.size ≤ b ∧ b < w'.heap.size ∧ IsPairs w' (.slice (some ⟨b, 0, none⟩) 2 2) headH ∧
    w'.cell? ⟨hb, 0, none⟩ = some (.int .i64 1) ∧ w'.cell? ⟨hb, 1, none⟩ = some (.int .i64 0) ∧ w'.cell? ⟨hb, 2, none⟩ = some (.int .i64 0) ∧ w'.cell? ⟨hb, 3, none⟩ = some (.int .i64 0) ∧ w'.cell? ⟨hb, 4, none⟩ = some (.slice none 0 0) ∧ w'.cell? ⟨hb, 5, none⟩ = some (.slice (some ⟨b, 0, none⟩) 2 2) ∧
    w'.cell? ⟨hb, 6, none⟩ = some (.int .i64 3) ∧ w.heap.size ≤ hb := by
  go_enter Tryz.func24, Tryz.ntmps24
  go_wp2
  go_ret
  have hI : IsPairs (w.alloc (.cells #[.string ⟨#[58, 112, 97, 116, 104]⟩, .string ⟨#[47]⟩, .string ⟨#[120]⟩, .string ⟨#[49]⟩] 122)) (.slice (some ⟨w.heap.size, 0, none⟩) 2 2) headH :=
    IsPairs.ofOwns (base := w.heap.size) (e := 122) ⟨rfl, .inr ⟨w.heap.size, 2, _, rfl, Nat.le_refl _, heap_alloc_new w _, by decide, by decide, rfl, rfl⟩⟩
  refine ⟨w.heap.size + 1, w.heap.size, rfl, ((Ext.refl w).alloc _).alloc _, Nat.le_refl _, by simp; omega, hI.ext ((Ext.refl _).alloc _), cell_new2 _ _ _ _ _ _ rfl, cell_new2 _ _ _ _ _ _ rfl, cell_new2 _ _ _ _ _ _ rfl, cell_new2 _ _ _ _ _ _ rfl, cell_new2 _ _ _ _ _ _ rfl, cell_new2 _ _ _ _ _ _ rfl, cell_new2 _ _ _ _ _ _ rfl, by omega⟩
end Go.Proofs.YtoijpogadkogcaaGreat
