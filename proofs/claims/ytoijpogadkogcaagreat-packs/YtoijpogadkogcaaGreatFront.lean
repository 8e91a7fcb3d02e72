/-
  What stands between the calls of package ferry and those of package packing; what is packed is unpacked.
-/
import Derived.Test.YtoijpogadkogcaaGreatUnpack
namespace Go.Proofs.YtoijpogadkogcaaGreat
open Go.RowKit
set_option maxRecDepth 100000

set_option maxHeartbeats 800000 in
theorem fPack_any (vh : Value) (m : List (List UInt8 × List UInt8)) (w : World) (hh : IsPairs w vh m) (hs : ∀ p ∈ m, p.1.length ≤ maxLen ∧ p.2.length ≤ maxLen) :
    Calls Tryz.prog 102 #[vh] w fun e w' => Ext w w' ∧ ((packs m = true ∧ ∃ v, e = .returned (.tuple #[v, .int .i64 0]) ∧ w'.ownsRow w.heap.size 5 1 v (encAll m).length (bcells (encAll m))) ∨ (packs m = false ∧ e = .returned (.tuple #[.slice none 0 0, .int .i64 2]))) := by
  go_enter Tryz.func102, Tryz.ntmps102
  go_wp2_with fail
  refine (pack_any vh m w hh hs).mono ?_
  rintro e w1 ⟨hE, ⟨hp, v, rfl, hown⟩ | ⟨hp, rfl⟩⟩
  · have HP := hide hp
    clear hp
    go_wp2
    go_ret2
    exact ⟨hE, .inl ⟨HP.out, v, rfl, hown⟩⟩
  · have HP := hide hp
    clear hp
    go_wp2
    go_ret2
    exact ⟨hE, .inr ⟨HP.out, rfl⟩⟩

set_option maxHeartbeats 800000 in
theorem fUnpack_any (v : Value) (l0 : List UInt8) (w : World) (h : IsBytes w v l0) :
    Calls Tryz.prog 107 #[v] w fun e w' => Ext w w' ∧ ((∃ m v', unpacks l0 = some m ∧ e = .returned (.tuple #[v', .int .i64 0]) ∧ w'.ownsRow w.heap.size 122 2 v' m.length (pcells m)) ∨ (unpacks l0 = none ∧ e = .returned (.tuple #[.slice none 0 0, .int .i64 3]))) := by
  go_enter Tryz.func107, Tryz.ntmps107
  go_wp2_with fail
  refine (unpack_any v l0 w h).mono ?_
  rintro e w1 ⟨hE, ⟨m, v', hp, rfl, hown⟩ | ⟨hp, rfl⟩⟩
  · have HP := hide hp
    clear hp
    go_wp2
    go_ret2
    exact ⟨hE, .inl ⟨m, v', HP.out, rfl, hown⟩⟩
  · have HP := hide hp
    clear hp
    go_wp2
    go_ret2
    exact ⟨hE, .inr ⟨HP.out, rfl⟩⟩

/-- What is packed is unpacked. -/
theorem unpacks_enc (m : List (List UInt8 × List UInt8)) (h : packs m = true) : unpacks (encAll m) = some m := by
  simp only [packs, okAll, Bool.and_eq_true, decide_eq_true_eq, List.all_eq_true] at h
  obtain ⟨⟨h1, h8⟩, hok⟩ := h
  have hl := encAll_le m hok
  unfold unpacks
  rw [if_neg (by omega)]
  exact decL_enc 8 m h8 hok
/-- What was unpacked is packed, in no more bytes. -/
theorem unpacks_len (l : List UInt8) (m : List (List UInt8 × List UInt8)) (h : unpacks l = some m) : packs m = true ∧ (encAll m).length ≤ l.length ∧ m.length ≤ 8 ∧ ∀ p ∈ m, p.1.length ≤ maxLen ∧ p.2.length ≤ maxLen := by
  unfold unpacks at h
  split at h
  · cases h
  · obtain ⟨h1, h2, h3, h4⟩ := decL_len 8 l m h
    have hl : l ≠ [] := by intro e; subst e; simp at *
    have hm := h4 hl
    have hm1 : 1 ≤ m.length := by cases m with | nil => exact absurd rfl hm | cons => simp
    refine ⟨?_, h3, h1, fun p hp => ?_⟩
    · simp only [packs, okAll, Bool.and_eq_true, decide_eq_true_eq, List.all_eq_true]
      exact ⟨⟨hm1, h1⟩, h2⟩
    · have := okPair_len p (h2 p hp)
      unfold maxLen
      omega
end Go.Proofs.YtoijpogadkogcaaGreat
