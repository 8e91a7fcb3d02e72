/-
  Two lists that hold the same headers are told to be the same; what stands between the calls of package ferry and those of package packing; raw numbers.
-/
import Derived.Test.YtoonabcjchfkeaaUnpack
namespace Go.Proofs.Ytoonabcjchfkeaa
open Go.RowKit

set_option maxHeartbeats 1600000 in
theorem same_any (va vb : Value) (m : List (List UInt8 × List UInt8)) (w : World) (ha : IsPairs w va m) (hb : IsPairs w vb m) (hm : m.length ≤ 1000) :
    Calls Try.prog 7 #[va, vb] w fun e w' => e = .returned (.bool true) ∧ Ext w w' := by
  obtain ⟨a, capa, rfl, ha1, ha2, ha3⟩ := ha
  obtain ⟨b, capb, rfl, hb1, hb2, hb3⟩ := hb
  have HA := hide ha3
  have HB := hide hb3
  clear ha3 hb3
  go_enter Try.func7, Try.ntmps7
  go_wp2
  go_loopw [5] (fun i wr => ∃ k : Nat, k ≤ m.length ∧ i = .int .i64 k ∧ Ext w wr) (fun i _ => m.length - (intOf i).toNat)
  case atStart => exact ⟨0, Nat.zero_le _, rfl, Ext.refl _⟩
  case round =>
    obtain ⟨k, hk, rfl, hE⟩ := hrel
    by_cases hlt : k < m.length
    · obtain ⟨a1, o1, rfl, hca⟩ : ∃ b o, a = some ⟨b, o, none⟩ ∧ ∀ i, i < m.length → w.cell? ⟨b, o + i * 2, none⟩ = some (.string ⟨(m.getD i ([], [])).1.toArray⟩) ∧ w.cell? ⟨b, o + i * 2 + 1, none⟩ = some (.string ⟨(m.getD i ([], [])).2.toArray⟩) := by
        rcases HA.out with h | h
        · rw [h] at hlt; simp at hlt
        · exact h
      obtain ⟨b1, o2, rfl, hcb⟩ : ∃ b' o, b = some ⟨b', o, none⟩ ∧ ∀ i, i < m.length → w.cell? ⟨b', o + i * 2, none⟩ = some (.string ⟨(m.getD i ([], [])).1.toArray⟩) ∧ w.cell? ⟨b', o + i * 2 + 1, none⟩ = some (.string ⟨(m.getD i ([], [])).2.toArray⟩) := by
        rcases HB.out with h | h
        · rw [h] at hlt; simp at hlt
        · exact h
      have h1 := hE.cell (hca k hlt).1
      have h2 := hE.cell (hca k hlt).2
      have h3 := hE.cell (hcb k hlt).1
      have h4 := hE.cell (hcb k hlt).2
      generalize m.getD k ([], []) = p at h1 h2 h3 h4
      have hlt' : (k : Int) < (m.length : Int) := by omega
      clear hca hcb
      go_wp2_with fail
      go_quiet (fail)
      have hE2 := hE.trans (drewN_ext wr nq)
      go_wp2
      go_roundw
      case rel => exact ⟨k + 1, by omega, by go_num, hE2⟩
      case measure => simp [intOf]; omega
    · go_wp2
      go_ret
      exact ⟨rfl, hE⟩

set_option maxHeartbeats 800000 in
theorem fPack_any (vh : Value) (m : List (List UInt8 × List UInt8)) (w : World) (hh : IsPairs w vh m) (hs : ∀ p ∈ m, p.1.length ≤ maxLen ∧ p.2.length ≤ maxLen) :
    Calls Try.prog 5 #[vh] w fun e w' => Ext w w' ∧ ((packs m = true ∧ ∃ v, e = .returned (.tuple #[v, .int .i64 0]) ∧ w'.ownsRow w.heap.size 5 1 v (encAll m).length (bcells (encAll m))) ∨ (packs m = false ∧ e = .returned (.tuple #[.slice none 0 0, .int .i64 2]))) := by
  go_enter Try.func5, Try.ntmps5
  go_wp2_with fail
  refine (pack_any vh m w hh hs).mono ?_
  rintro e w1 ⟨hE, ⟨hp, v, rfl, hown⟩ | ⟨hp, rfl⟩⟩
  · have HP := hide hp
    clear hp
    go_wp2
    go_ret2
    exact ⟨hE, .inl ⟨HP.out, v, rfl, hown⟩⟩
  · have HP := hide hp
    clear hp
    go_wp2
    go_ret2
    exact ⟨hE, .inr ⟨HP.out, rfl⟩⟩

set_option maxHeartbeats 800000 in
theorem fUnpack_any (v : Value) (l0 : List UInt8) (w : World) (h : IsBytes w v l0) :
    Calls Try.prog 6 #[v] w fun e w' => Ext w w' ∧ ((∃ m v', unpacks l0 = some m ∧ e = .returned (.tuple #[v', .int .i64 0]) ∧ w'.ownsRow w.heap.size 35 2 v' m.length (pcells m)) ∨ (unpacks l0 = none ∧ e = .returned (.tuple #[.slice none 0 0, .int .i64 3]))) := by
  go_enter Try.func6, Try.ntmps6
  go_wp2_with fail
  refine (unpack_any v l0 w h).mono ?_
  rintro e w1 ⟨hE, ⟨m, v', hp, rfl, hown⟩ | ⟨hp, rfl⟩⟩
  · have HP := hide hp
    clear hp
    go_wp2
    go_ret2
    exact ⟨hE, .inl ⟨m, v', HP.out, rfl, hown⟩⟩
  · have HP := hide hp
    clear hp
    go_wp2
    go_ret2
    exact ⟨hE, .inr ⟨HP.out, rfl⟩⟩

/-- What is packed is unpacked. -/
theorem unpacks_enc (m : List (List UInt8 × List UInt8)) (h : packs m = true) : unpacks (encAll m) = some m := by
  simp only [packs, okAll, Bool.and_eq_true, decide_eq_true_eq, List.all_eq_true] at h
  obtain ⟨⟨h1, h8⟩, hok⟩ := h
  have hl := encAll_le m hok
  unfold unpacks
  rw [if_neg (by omega)]
  exact decL_enc 8 m h8 hok
/-- What was unpacked is packed, in no more bytes. -/
theorem unpacks_len (l : List UInt8) (m : List (List UInt8 × List UInt8)) (h : unpacks l = some m) : packs m = true ∧ (encAll m).length ≤ l.length ∧ m.length ≤ 8 ∧ ∀ p ∈ m, p.1.length ≤ maxLen ∧ p.2.length ≤ maxLen := by
  unfold unpacks at h
  split at h
  · cases h
  · obtain ⟨h1, h2, h3, h4⟩ := decL_len 8 l m h
    have hl : l ≠ [] := by intro e; subst e; simp at *
    have hm := h4 hl
    have hm1 : 1 ≤ m.length := by cases m with | nil => exact absurd rfl hm | cons => simp
    refine ⟨?_, h3, h1, fun p hp => ?_⟩
    · simp only [packs, okAll, Bool.and_eq_true, decide_eq_true_eq, List.all_eq_true]
      exact ⟨⟨hm1, h1⟩, h2⟩
    · have := okPair_len p (h2 p hp)
      unfold maxLen
      omega
end Go.Proofs.Ytoonabcjchfkeaa
