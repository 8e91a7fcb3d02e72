/-
  Headers that were lent stand as they did, and what is behind them; their owner writes over them.
-/
import Derived.Test.YtoijpogadkogcaaGreatRet
namespace Go.Proofs.YtoijpogadkogcaaGreat
open Go.RowKit
set_option maxRecDepth 100000

theorem behindP_get (i : Nat) (h : i < 8) : (Value.string ⟨(behindP.getD i ([], [])).1.toArray⟩ = .string ⟨#[98, 101, 104, 105, 110, 100]⟩) ∧ Value.string ⟨(behindP.getD i ([], [])).2.toArray⟩ = .string ((⟨#[48, 49, 50, 51, 52, 53, 54, 55, 56, 57]⟩ : ByteArray).extract i (i + 1)) := by
  have : ∀ j : Fin 8, (behindP.getD j.val ([], [])).1 = [98, 101, 104, 105, 110, 100] ∧ (behindP.getD j.val ([], [])).2 = [UInt8.ofNat (48 + j.val)] := by decide
  obtain ⟨h1, h2⟩ := this ⟨i, h⟩
  simp only at h1 h2
  have h3 : (⟨#[48, 49, 50, 51, 52, 53, 54, 55, 56, 57]⟩ : ByteArray).extract i (i + 1) = ⟨[UInt8.ofNat (48 + i)].toArray⟩ := ba_ext (digit_at i (by omega))
  rw [h1, h2, h3]
  exact ⟨rfl, rfl⟩

theorem returnedPairs_nil (Y n cap : Nat) (g : Value) (w : World) : Calls Tryz.prog 105 #[.pointer (some ⟨Y, 0, none⟩), g, .slice none n cap] w fun e w' => e = .returned (.bool true) ∧ w' = w := by
  have qB := Tryz.nilP
  go_enter Tryz.func105, Tryz.ntmps105
  go_wp2
  go_ret
  exact ⟨rfl, rfl⟩

set_option maxHeartbeats 6400000 in
theorem returnedPairs_some (w0 : World) (Y : Nat) (va vc : Value) (nA nC BA BC g c cap : Nat) (ad : Addr) (l0 : List (List UInt8 × List UInt8)) (w : World) (inv : Inv w0 Y w va vc nA nC BA BC)
    (hown : w.ownsRow BC 122 2 (.slice (some ⟨g, 0, none⟩) (l0.length + 8) c) (l0.length + 8) (pcells (l0 ++ behindP))) (hb : IsPairs w (.slice (some ad) l0.length cap) l0) (hn : l0.length ≤ 4398046510976) (hnC : nC ≤ 4398046511104) :
    Calls Tryz.prog 105 #[.pointer (some ⟨Y, 0, none⟩), .slice (some ⟨g, 0, none⟩) l0.length c, .slice (some ad) l0.length cap] w fun e w' => e = .returned (.bool true) ∧ ∃ vc', Inv w0 Y w' va vc' nA (nC + 1) BA w'.heap.size := by
  have qB := Tryz.nilP
  have HI := hide inv
  have hlen : (l0 ++ behindP).length = l0.length + 8 := by rw [List.length_append]; rfl
  have hall : ∀ i, i < l0.length + 8 → w.cell? ⟨g, i * 2, none⟩ = some (.string ⟨((l0 ++ behindP).getD i ([], [])).1.toArray⟩) ∧ w.cell? ⟨g, i * 2 + 1, none⟩ = some (.string ⟨((l0 ++ behindP).getD i ([], [])).2.toArray⟩) := by
    obtain ⟨a', c', h1, _, _, h4⟩ := IsPairs.ofOwns (l := l0 ++ behindP) (by rw [hlen]; exact hown)
    rcases h4 with h4 | ⟨b, o, h5, h6⟩
    · rw [h4] at hlen; simp at hlen
    · simp only [Value.slice.injEq] at h1
      rw [← h1.1] at h5
      simp only [Option.some.injEq, Addr.mk.injEq, and_true] at h5
      obtain ⟨rfl, rfl⟩ := h5
      intro i hi
      have := h6 i (by omega)
      rw [Nat.zero_add] at this
      exact this
  have hg8 : l0.length + 8 ≤ c ∧ c ≤ maxLen := by
    obtain ⟨a', c', h1, h2, h3, _⟩ := owns_slice hown
    simp only [Value.slice.injEq] at h1
    obtain ⟨_, _, rfl⟩ := h1
    exact ⟨h2, h3⟩
  obtain ⟨hc1, hc2⟩ := hg8
  obtain ⟨a', cap', h1, hb1, hb2, hb3⟩ := hb
  simp only [Value.slice.injEq] at h1
  obtain ⟨rfl, _, rfl⟩ := h1
  have HT : Hid (w.ownsRow BC 122 2 (.slice (some ⟨g, 0, none⟩) l0.length c) l0.length (pcells l0)) := by
    have := owns_take hown
    rwa [take_pcells] at this
  have HA := hide hall
  have HB := hide hb3
  have hleft : ∀ i, i < l0.length → (l0 ++ behindP).getD i ([], []) = l0.getD i ([], []) := fun i hi => getD_left _ _ _ _ hi
  have hright : ∀ i, i < 8 → (l0 ++ behindP).getD (l0.length + i) ([], []) = behindP.getD i ([], []) := fun i hi => getD_right _ _ _ _
  have HL := hide hleft
  have HN0 : Hid (l0 = [] → l0.length = 0) := fun h => by rw [h]; rfl
  have HR := hide hright
  clear hall hb3 inv hown hlen hleft hright
  unfold maxLen at hc2 hb2
  generalize hN : l0.length = N at *
  clear hN
  go_enter Tryz.func105, Tryz.ntmps105
  go_wp2_with fail
  go_loopw [8, 9] (fun s i wr => ∃ k : Nat, k ≤ N ∧ i = .int .i64 k ∧ s = .bool true ∧ Hid (Ext w wr)) (fun _ i _ => N - (intOf i).toNat)
  case atStart => exact ⟨0, Nat.zero_le _, rfl, rfl, Ext.refl _⟩
  case round =>
    obtain ⟨k, hk, rfl, rfl, HE⟩ := hrel
    by_cases hlt : k < N
    · obtain ⟨b, o, rfl, hcb⟩ : ∃ b o, ad = ⟨b, o, none⟩ ∧ ∀ i, i < N → w.cell? ⟨b, o + i * 2, none⟩ = some (.string ⟨(l0.getD i ([], [])).1.toArray⟩) ∧ w.cell? ⟨b, o + i * 2 + 1, none⟩ = some (.string ⟨(l0.getD i ([], [])).2.toArray⟩) := by
        rcases HB.out with h | ⟨b, o, h, h'⟩
        · have := HN0.out h; omega
        · injection h with h
          exact ⟨b, o, h, h'⟩
      have h1 := HE.out.cell (hcb k hlt).1
      have h1' := HE.out.cell (hcb k hlt).2
      have h2 := HE.out.cell (HA.out k (by omega)).1
      have h2' := HE.out.cell (HA.out k (by omega)).2
      rw [HL.out k hlt] at h2 h2'
      generalize l0.getD k ([], []) = x at h1 h2 h1' h2'
      have hlt' : (k : Int) < (N : Int) := by omega
      clear hcb
      go_wp2_with fail
      go_quiet (fail)
      have hE2 : Hid (Ext w (wr.drewN nq)) := HE.out.trans (drewN_ext wr nq)
      go_wp2
      go_roundw
      case rel => exact ⟨k + 1, by omega, by go_num, by simp, hE2⟩
      case measure => simp [intOf]; omega
    · go_wp2_with fail
      go_loopw [8, 10] (fun s i wz => ∃ k : Nat, k ≤ 8 ∧ i = .int .i64 k ∧ s = .bool true ∧ Hid (Ext w wz)) (fun _ i _ => 8 - (intOf i).toNat)
      case atStart => exact ⟨0, Nat.zero_le _, rfl, rfl, HE⟩
      case round =>
        obtain ⟨q, hq, rfl, rfl, HE2⟩ := hrel
        by_cases hlt2 : q < 8
        · have h2 := HE2.out.cell (HA.out (N + q) (by omega)).1
          have h2' := HE2.out.cell (HA.out (N + q) (by omega)).2
          rw [HR.out q hlt2] at h2 h2'
          rw [(behindP_get q hlt2).1] at h2
          rw [(behindP_get q hlt2).2] at h2'
          have hlt' : (q : Int) < 8 := by omega
          go_wp2_with fail
          go_quiet (fail)
          have hE3 : Hid (Ext w (wr.drewN nq)) := HE2.out.trans (drewN_ext wr nq)
          go_wp2
          go_roundw
          case rel => exact ⟨q + 1, by omega, by go_num, by simp, hE3⟩
          case measure => simp [intOf]; omega
        · have hInv := HI.out.next HE2.out
          have hown2 := owns_ext HT.out HE2.out
          have HI2 := hide hInv
          have HO2 := hide hown2
          clear hInv hown2
          go_wp2_with (go_at_call 146; refine (bPairs_any Y w0.heap.size BC nC N vc va _ (pcells l0) wr HI2.out.heapY HI2.out.pc HO2.out HI2.out.bc HI2.out.bc0 (by omega) (by omega)).mono ?_; rintro e w1 ⟨vc', rfl, h1, h2, h3⟩)
          have HR2 := hide (HI2.out.pairs HO2.out h1 h2 h3)
          clear h1 h2 h3
          go_wp2
          go_ret
          exact ⟨rfl, vc', HR2.out⟩
end Go.Proofs.YtoijpogadkogcaaGreat
