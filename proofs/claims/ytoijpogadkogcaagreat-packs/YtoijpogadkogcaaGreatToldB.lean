/-
  What came out is the document's answer, and its owner's.
-/
import Derived.Test.YtoijpogadkogcaaGreatTold
namespace Go.Proofs.YtoijpogadkogcaaGreat
open Go.RowKit
set_option maxRecDepth 100000

set_option maxHeartbeats 1600000 in
theorem bytesTold_any (w0 : World) (Y : Nat) (va vc : Value) (nA nC BA BC : Nat) (v vb : Value) (l : List UInt8) (w : World) (inv : Inv w0 Y w va vc nA nC BA BC)
    (hown : w.ownsRow BA 5 1 v l.length (bcells l)) (hb : IsBytes w vb l) (hn : l.length ≤ 140737488351240) (hnA : nA ≤ 4398046511104) :
    Calls Tryz.prog 104 #[.pointer (some ⟨Y, 0, none⟩), v, vb] w fun e w' => e = .returned (.bool true) ∧ ∃ va', Inv w0 Y w' va' vc (nA + 1) nC w'.heap.size BC ∧ But (fun k => k = Y ∨ va.ownBlock = some k ∨ v.ownBlock = some k) w w' := by
  have HI := hide inv
  have HO := hide hown
  have ha := IsBytes.ofOwns hown
  obtain ⟨a, cap, rfl, hc1, hc2, _⟩ := owns_slice hown
  obtain ⟨b, capb, rfl, hb1, hb2, hb3⟩ := id hb
  have q1 : (convert 34 9 (.slice a l.length cap)).run Tryz.prog w = .ok (.string ⟨l.toArray⟩) w := conv_bytes ha
  have q2 : (convert 34 9 (.slice b l.length capb)).run Tryz.prog w = .ok (.string ⟨l.toArray⟩) w := conv_bytes hb
  clear ha hb hb3 hown inv
  generalize hN : l.length = N at *
  generalize (⟨l.toArray⟩ : ByteArray) = X at q1 q2
  unfold maxLen at hc2 hb2
  clear hN
  go_enter Tryz.func104, Tryz.ntmps104
  go_wp2_with (go_at_call 145; refine (bBytes_any Y w0.heap.size BA nA N va vc _ (bcells l) w HI.out.heapY HI.out.pa HO.out HI.out.ba HI.out.ba0 (by omega) (by omega)).mono ?_; rintro e w1 ⟨va', rfl, h1, h2, h3⟩)
  have HR := hide (HI.out.bytes HO.out h1 h2 h3)
  have H3 := hide h3
  clear h1 h2 h3
  go_wp2
  go_ret
  exact ⟨rfl, va', HR.out, H3.out⟩

set_option maxHeartbeats 1600000 in
theorem pairsTold_any (w0 : World) (Y : Nat) (va vc : Value) (nA nC BA BC : Nat) (v vb : Value) (m : List (List UInt8 × List UInt8)) (w : World) (inv : Inv w0 Y w va vc nA nC BA BC)
    (hown : w.ownsRow BC 122 2 v m.length (pcells m)) (hb : IsPairs w vb m) (hn : m.length ≤ 4398046510976) (hnC : nC ≤ 4398046511104) :
    Calls Tryz.prog 109 #[.pointer (some ⟨Y, 0, none⟩), v, vb] w fun e w' => e = .returned (.bool true) ∧ ∃ vc', Inv w0 Y w' va vc' nA (nC + 1) BA w'.heap.size ∧ But (fun k => k = Y ∨ vc.ownBlock = some k ∨ v.ownBlock = some k ∨ w.heap.size ≤ k) w w' := by
  have HI := hide inv
  have HO := hide hown
  obtain ⟨a, cap, hv, ha1, ha2, ha3⟩ := IsPairs.ofOwns hown
  obtain ⟨b, capb, rfl, hb1, hb2, hb3⟩ := hb
  subst hv
  have HA := hide ha3
  have HB := hide hb3
  unfold maxLen at ha2 hb2
  clear ha3 hb3 hown inv
  go_enter Tryz.func109, Tryz.ntmps109
  go_wp2_with fail
  go_loopw [7, 8] (fun s i wr => ∃ k : Nat, k ≤ m.length ∧ i = .int .i64 k ∧ s = .bool true ∧ Ext w wr) (fun _ i _ => m.length - (intOf i).toNat)
  case atStart => exact ⟨0, Nat.zero_le _, rfl, by simp, Ext.refl _⟩
  case round =>
    obtain ⟨k, hk, rfl, rfl, hE⟩ := hrel
    by_cases hlt : k < m.length
    · obtain ⟨a1, o1, rfl, hca⟩ : ∃ b o, a = some ⟨b, o, none⟩ ∧ ∀ i, i < m.length → w.cell? ⟨b, o + i * 2, none⟩ = some (.string ⟨(m.getD i ([], [])).1.toArray⟩) ∧ w.cell? ⟨b, o + i * 2 + 1, none⟩ = some (.string ⟨(m.getD i ([], [])).2.toArray⟩) := by
        rcases HA.out with h | h
        · rw [h] at hlt; simp at hlt
        · exact h
      obtain ⟨b1, o2, rfl, hcb⟩ : ∃ b' o, b = some ⟨b', o, none⟩ ∧ ∀ i, i < m.length → w.cell? ⟨b', o + i * 2, none⟩ = some (.string ⟨(m.getD i ([], [])).1.toArray⟩) ∧ w.cell? ⟨b', o + i * 2 + 1, none⟩ = some (.string ⟨(m.getD i ([], [])).2.toArray⟩) := by
        rcases HB.out with h | h
        · rw [h] at hlt; simp at hlt
        · exact h
      have h1 := hE.cell (hca k hlt).1
      have h2 := hE.cell (hca k hlt).2
      have h3 := hE.cell (hcb k hlt).1
      have h4 := hE.cell (hcb k hlt).2
      generalize m.getD k ([], []) = p at h1 h2 h3 h4
      have hlt' : (k : Int) < (m.length : Int) := by omega
      clear hca hcb
      have HE := hide hE
      clear hE
      go_wp2_with fail
      go_quiet (fail)
      have hE2 := HE.out.trans (drewN_ext wr nq)
      go_wp2
      go_roundw
      case rel => exact ⟨k + 1, by omega, by go_num, by simp, hE2⟩
      case measure => simp [intOf]; omega
    · have hInv := HI.out.next hE
      have hown2 := owns_ext HO.out hE
      have HI2 := hide hInv
      have HO2 := hide hown2
      have HE := hide hE
      clear hInv hown2 hE
      go_wp2_with (go_at_call 146; refine (bPairs_any Y w0.heap.size BC nC m.length vc va _ (pcells m) wr HI2.out.heapY HI2.out.pc HO2.out HI2.out.bc HI2.out.bc0 (by omega) (by omega)).mono ?_; rintro e w1 ⟨vc', rfl, h1, h2, h3⟩)
      have HR := hide (HI2.out.pairs HO2.out h1 h2 h3)
      have H3 : Hid (But (fun k => k = Y ∨ vc.ownBlock = some k ∨ (Value.slice a m.length cap).ownBlock = some k ∨ w.heap.size ≤ k) w w1) := (But.ofExt HE.out).trans (h3.mono (fun k hk h => by rcases h with h | h | h; exact .inl (.inl h); exact .inl (.inr (.inl h)); exact .inl (.inr (.inr (.inl h)))))
      clear h1 h2 h3
      go_wp2
      go_ret
      exact ⟨rfl, vc', HR.out, H3.out⟩
end Go.Proofs.YtoijpogadkogcaaGreat
