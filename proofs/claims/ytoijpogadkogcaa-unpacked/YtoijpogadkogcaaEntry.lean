/-
  The table of known headers, as api.Table lays it; the least entry that stands for a header, and for its name.
-/
import Derived.Test.YtoijpogadkogcaaSmall
import Derived.Test.YtoijpogadkogcaaMem
namespace Go.Proofs.Ytoijpogadkogcaa
open Go.RowKit
set_option maxRecDepth 100000

set_option maxHeartbeats 800000 in
theorem table_any (w : World) : Calls Try.prog 49 #[] w fun e w' => ∃ v, e = .returned v ∧ IsPairs w' v tbl ∧ Ext w w' := by
  go_enter Try.func49, Try.ntmps49
  go_wp2
  go_ret
  refine ⟨_, rfl, ?_, (Ext.refl _).alloc _⟩
  refine IsPairs.ofOwns (base := w.heap.size) (e := 42) ⟨rfl, .inr ⟨w.heap.size, 16, _, rfl, Nat.le_refl _, heap_alloc_new w _, by decide, by decide, rfl, rfl⟩⟩

theorem cell_box0 (w : World) (a b : Value) (t : TypeId) : (w.alloc (.cells #[a, b] t)).cell? ⟨w.heap.size, 0, none⟩ = some a := by simp
theorem cell_box1 (w : World) (a b : Value) (t : TypeId) : (w.alloc (.cells #[a, b] t)).cell? ⟨w.heap.size, 1, none⟩ = some b := by simp

set_option maxHeartbeats 800000 in
theorem entryNamed_any (s : ByteArray) (vt : Value) (l : List (List UInt8 × List UInt8)) (w : World) (hl : l.length ≤ 1000) (ht : IsPairs w vt l) : Calls Try.prog 85 #[.string s, vt] w fun e w' => e = .returned (.int .i64 (least (nameQ s.data.toList) l : Nat)) ∧ Ext w w' := by
  obtain ⟨a, cap, rfl, hc1, hc2, hcell⟩ := ht
  have HC := hide hcell
  clear hcell
  go_enter Try.func85, Try.ntmps85
  go_wp2
  go_loopw [9] (fun i wr => ∃ k : Nat, k ≤ l.length ∧ i = .int .i64 k ∧ Ext w wr ∧ Hid (∀ j, j < k → nameQ s.data.toList (l.getD j ([], [])) = false)) (fun i _ => l.length - (intOf i).toNat)
  case atStart => exact ⟨0, Nat.zero_le _, rfl, Ext.refl _, fun j h => by omega⟩
  case round =>
    obtain ⟨k, hk, rfl, hext, HA⟩ := hrel
    by_cases hlt : k < l.length
    · obtain ⟨b, o, rfl, hcc⟩ : ∃ b o, a = some ⟨b, o, none⟩ ∧ ∀ i, i < l.length → w.cell? ⟨b, o + i * 2, none⟩ = some (.string ⟨(l.getD i ([], [])).1.toArray⟩) ∧ w.cell? ⟨b, o + i * 2 + 1, none⟩ = some (.string ⟨(l.getD i ([], [])).2.toArray⟩) := by
        rcases HC.out with h | h
        · rw [h] at hlt; simp at hlt
        · exact h
      have hcA := hext.cell (hcc k hlt).1
      have hcB := hext.cell (hcc k hlt).2
      clear hcc
      generalize hp : l.getD k ([], []) = p at hcA hcB
      have HP := hide hp
      clear hp
      by_cases hq : (p.1 == s.toList) = true
      · go_wp2
        go_ret
        exact ⟨ret_int (by rw [least_first (nameQ s.data.toList) l k hlt HA.out (by rw [HP.out, nameQ, ← ByteArray.toList_eq]; exact hq)]; omega), hext.alloc _⟩
      · have hq' : (p.1 == s.toList) = false := by simpa using hq
        clear hq
        go_wp2
        go_roundw
        case rel =>
          refine ⟨k + 1, by omega, by go_num, hext.alloc _, fun j hj => ?_⟩
          by_cases e : j = k
          · subst e; rw [HP.out, nameQ, ← ByteArray.toList_eq]; exact hq'
          · exact HA.out j (by omega)
        case measure => simp [intOf]; omega
    · go_wp2
      go_ret
      exact ⟨ret_int (by rw [least_none (nameQ s.data.toList) l (fun j hj => HA.out j (by omega))]; rfl), hext⟩

theorem wholeQ_is (a b : ByteArray) (p : List UInt8 × List UInt8) : wholeQ (a.data.toList, b.data.toList) p = ((p.2 != []) && ((p.1 == a.toList) && (p.2 == b.toList))) := by
  rw [ByteArray.toList_eq, ByteArray.toList_eq]
  rfl

set_option maxHeartbeats 1600000 in
theorem entryOf_any (x y : ByteArray) (vt : Value) (l : List (List UInt8 × List UInt8)) (w : World) (hl : l.length ≤ 1000) (ht : IsPairs w vt l) : Calls Try.prog 83 #[.agg #[.string x, .string y], vt] w fun e w' => e = .returned (.int .i64 (least (wholeQ (x.data.toList, y.data.toList)) l : Nat)) ∧ Ext w w' := by
  obtain ⟨a, cap, rfl, hc1, hc2, hcell⟩ := ht
  have HC := hide hcell
  clear hcell
  have hx0 := (cell_box0 w (.string x) (.string y) 42)
  have hx1 := (cell_box1 w (.string x) (.string y) 42)
  have hE := (Ext.refl w).alloc (.cells #[.string x, .string y] 42)
  go_enter Try.func83, Try.ntmps83
  go_wp2
  generalize hW : w.alloc (.cells #[.string x, .string y] 42) = W at hx0 hx1 hE ⊢
  clear hW
  go_loopw [9] (fun i wr => ∃ k : Nat, k ≤ l.length ∧ i = .int .i64 k ∧ Ext W wr ∧ Hid (∀ j, j < k → wholeQ (x.data.toList, y.data.toList) (l.getD j ([], [])) = false)) (fun i _ => l.length - (intOf i).toNat)
  case atStart => exact ⟨0, Nat.zero_le _, rfl, Ext.refl _, fun j h => by omega⟩
  case round =>
    obtain ⟨k, hk, rfl, hextW, HA⟩ := hrel
    have hx0' := hextW.cell hx0
    have hx1' := hextW.cell hx1
    have hext := hE.trans hextW
    clear hx0 hx1
    by_cases hlt : k < l.length
    · obtain ⟨b, o, rfl, hcc⟩ : ∃ b o, a = some ⟨b, o, none⟩ ∧ ∀ i, i < l.length → w.cell? ⟨b, o + i * 2, none⟩ = some (.string ⟨(l.getD i ([], [])).1.toArray⟩) ∧ w.cell? ⟨b, o + i * 2 + 1, none⟩ = some (.string ⟨(l.getD i ([], [])).2.toArray⟩) := by
        rcases HC.out with h | h
        · rw [h] at hlt; simp at hlt
        · exact h
      have hcA := hext.cell (hcc k hlt).1
      have hcB := hext.cell (hcc k hlt).2
      clear hcc
      generalize hp : l.getD k ([], []) = p at hcA hcB
      have HP := hide hp
      clear hp
      have hz : w.heap.size < wr.heap.size := lt_of_cell hx0'
      go_wp2
      all_goals first
        | (go_ret
           exact ⟨ret_int (by rw [least_first _ l k hlt HA.out (by rw [HP.out, wholeQ_is]; simp_all)]; omega), hext.alloc _⟩)
        | (go_roundw
           case rel =>
             refine ⟨k + 1, by omega, by go_num, hextW.alloc _, fun j hj => ?_⟩
             by_cases e : j = k
             · subst e; rw [HP.out, wholeQ_is]; simp_all
             · exact HA.out j (by omega)
           case measure => simp [intOf]; omega)
    · go_wp2
      go_ret
      exact ⟨ret_int (by rw [least_none _ l (fun j hj => HA.out j (by omega))]; rfl), hext⟩
end Go.Proofs.Ytoijpogadkogcaa
