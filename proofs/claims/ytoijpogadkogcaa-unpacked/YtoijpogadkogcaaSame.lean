/-
  Two lists that hold the same headers are told to be the same.
-/
import Derived.Test.YtoijpogadkogcaaFront
namespace Go.Proofs.Ytoijpogadkogcaa
open Go.RowKit
set_option maxRecDepth 100000

set_option maxHeartbeats 1600000 in
theorem same_any (va vb : Value) (m : List (List UInt8 × List UInt8)) (w : World) (ha : IsPairs w va m) (hb : IsPairs w vb m) (hm : m.length ≤ 1000) :
    Calls Try.prog 10 #[va, vb] w fun e w' => e = .returned (.bool true) ∧ Ext w w' := by
  obtain ⟨a, capa, rfl, ha1, ha2, ha3⟩ := ha
  obtain ⟨b, capb, rfl, hb1, hb2, hb3⟩ := hb
  have HA := hide ha3
  have HB := hide hb3
  clear ha3 hb3
  go_enter Try.func10, Try.ntmps10
  go_wp2
  go_loopw [5] (fun i wr => ∃ k : Nat, k ≤ m.length ∧ i = .int .i64 k ∧ Ext w wr) (fun i _ => m.length - (intOf i).toNat)
  case atStart => exact ⟨0, Nat.zero_le _, rfl, Ext.refl _⟩
  case round =>
    obtain ⟨k, hk, rfl, hE⟩ := hrel
    by_cases hlt : k < m.length
    · obtain ⟨a1, o1, rfl, hca⟩ : ∃ b o, a = some ⟨b, o, none⟩ ∧ ∀ i, i < m.length → w.cell? ⟨b, o + i * 2, none⟩ = some (.string ⟨(m.getD i ([], [])).1.toArray⟩) ∧ w.cell? ⟨b, o + i * 2 + 1, none⟩ = some (.string ⟨(m.getD i ([], [])).2.toArray⟩) := by
        rcases HA.out with h | h
        · rw [h] at hlt; simp at hlt
        · exact h
      obtain ⟨b1, o2, rfl, hcb⟩ : ∃ b' o, b = some ⟨b', o, none⟩ ∧ ∀ i, i < m.length → w.cell? ⟨b', o + i * 2, none⟩ = some (.string ⟨(m.getD i ([], [])).1.toArray⟩) ∧ w.cell? ⟨b', o + i * 2 + 1, none⟩ = some (.string ⟨(m.getD i ([], [])).2.toArray⟩) := by
        rcases HB.out with h | h
        · rw [h] at hlt; simp at hlt
        · exact h
      have h1 := hE.cell (hca k hlt).1
      have h2 := hE.cell (hca k hlt).2
      have h3 := hE.cell (hcb k hlt).1
      have h4 := hE.cell (hcb k hlt).2
      generalize m.getD k ([], []) = p at h1 h2 h3 h4
      have hlt' : (k : Int) < (m.length : Int) := by omega
      clear hca hcb
      go_wp2_with fail
      go_quiet (fail)
      have hE2 := hE.trans (drewN_ext wr nq)
      go_wp2
      go_roundw
      case rel => exact ⟨k + 1, by omega, by go_num, hE2⟩
      case measure => simp [intOf]; omega
    · go_wp2
      go_ret
      exact ⟨rfl, hE⟩

end Go.Proofs.Ytoijpogadkogcaa
