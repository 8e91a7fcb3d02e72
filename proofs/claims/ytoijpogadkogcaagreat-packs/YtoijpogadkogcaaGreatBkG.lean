/-
  The book: does every list read as its owner wrote it?
-/
import Derived.Test.YtoijpogadkogcaaGreatBkF
import Derived.Deep.QuietTactic
import Derived.BigQuiet
namespace Go.Proofs.YtoijpogadkogcaaGreat
open Go.RowKit
set_option maxRecDepth 100000

/-- What stands in a list of the book. -/
structure Reads (w : World) (sz : Nat) (F : Nat → Value) (b : Nat) : Prop where
  list : ∀ k, k < 4 → ∃ a m c, w.cell? ⟨b, k, none⟩ = some (.slice a m c) ∧ m ≤ maxLen ∧ (m = 0 ∨ ∃ g, a = some ⟨g, 0, none⟩ ∧ ∀ j, j < m * sz → w.cell? ⟨g, j, none⟩ = some (F j))
theorem Done.cell {w : World} {T : Nat} {F : Nat → Value} {g m : Nat} (h : Done w T F g m) (j : Nat) (hj : j < m) : w.cell? ⟨g, j, none⟩ = some (F j) := by
  obtain ⟨cur, h1, h2, h3⟩ := h
  have := h3 j hj
  simp only [World.cell?, h1]
  simpa using this
theorem Marked.list {w : World} {T sz : Nat} {F : Nat → Value} {B : Nat} {s : Value} (h : Marked w T sz F B s) : ∃ a m c, s = .slice a m c ∧ m ≤ maxLen ∧ (m = 0 ∨ ∃ g, a = some ⟨g, 0, none⟩ ∧ ∀ j, j < m * sz → w.cell? ⟨g, j, none⟩ = some (F j)) := by
  obtain ⟨a, n, cap, rfl, h1, h2⟩ := h
  refine ⟨a, n, cap, rfl, h1, ?_⟩
  rcases h2 with h2 | ⟨g, rfl, _, hd⟩
  · exact .inl h2
  · exact .inr ⟨g, rfl, fun j hj => hd.cell j hj⟩
theorem Sheet.reads {w : World} {TL T sz : Nat} {F : Nat → Value} {B : Nat} {S : Value} (h : Sheet w TL T sz F B S) : ∃ b, S = .slice (some ⟨b, 0, none⟩) 4 4 ∧ Reads w sz F b := by
  obtain ⟨b, s0, s1, s2, s3, rfl, hb, hh, m0, m1, m2, m3⟩ := h
  refine ⟨b, rfl, ⟨fun k hk => ?_⟩⟩
  match k, hk with
  | 0, _ => obtain ⟨a, m, c, rfl, h⟩ := m0.list; exact ⟨a, m, c, by simp [World.cell?, hh], h⟩
  | 1, _ => obtain ⟨a, m, c, rfl, h⟩ := m1.list; exact ⟨a, m, c, by simp [World.cell?, hh], h⟩
  | 2, _ => obtain ⟨a, m, c, rfl, h⟩ := m2.list; exact ⟨a, m, c, by simp [World.cell?, hh], h⟩
  | 3, _ => obtain ⟨a, m, c, rfl, h⟩ := m3.list; exact ⟨a, m, c, by simp [World.cell?, hh], h⟩
theorem Part.reads {w : World} {base TR TL T sz : Nat} {F : Nat → Nat → Value} {B : Nat} {v : Value} {n : Nat} (h : Part w base TR TL T sz F B v n) :
    ∃ a cap, v = .slice a n cap ∧ n ≤ cap ∧ cap ≤ maxLen ∧ ∀ i, i < n → ∃ g b, a = some ⟨g, 0, none⟩ ∧ w.cell? ⟨g, i, none⟩ = some (.slice (some ⟨b, 0, none⟩) 4 4) ∧ Reads w sz (F i) b := by
  obtain ⟨xs, hown, hs⟩ := h
  obtain ⟨a, cap, rfl, h1, h2, h3⟩ := owns_slice hown
  refine ⟨a, cap, rfl, h1, h2, fun i hi => ?_⟩
  obtain ⟨S, h4, h5⟩ := hs i hi
  obtain ⟨b, rfl, h6⟩ := h5.reads
  rcases h3 with h3 | ⟨g, rfl, _, h7⟩
  · omega
  · exact ⟨g, b, rfl, (h7 i (by omega)).trans h4, h6⟩

set_option maxHeartbeats 3200000 in
theorem pairsWhole_any (Y base B nC : Nat) (va vc : Value) (w : World) (hY : w.heap[Y]? = some (.cells #[.slice none 0 0, va, .slice none 0 0, vc] 68 (0, 0)))
    (hP : Part w base 169 43 122 2 FC B vc nC) (hnC : nC ≤ 4398046511104) :
    Calls Tryz.prog 68 #[.pointer (some ⟨Y, 1, none⟩)] w fun e w' => e = .returned (.bool true) ∧ Ext w w' := by
  obtain ⟨a, cap, rfl, hcap1, hcap2, hR⟩ := hP.reads
  have HR := hide hR
  unfold maxLen at hcap2
  have hcY : w.cell? ⟨Y, 3, none⟩ = some (.slice a nC cap) := by simp [World.cell?, hY]
  clear hR hP hY
  go_enter Tryz.func68, Tryz.ntmps68
  go_wp2_with fail
  go_loopw [3] (fun i wr => ∃ k : Nat, k ≤ nC ∧ i = .int .i64 k ∧ Ext w wr) (fun i _ => nC - (intOf i).toNat)
  case atStart => exact ⟨0, Nat.zero_le _, rfl, Ext.refl _⟩
  case round =>
    obtain ⟨i, hi, rfl, hE⟩ := hrel
    have hcY2 := hE.cell hcY
    have HE := hide hE
    clear hE
    by_cases hlt : i < nC
    · obtain ⟨g, b, rfl, hcg, hrd⟩ := HR.out i hlt
      have hcg2 := HE.out.cell hcg
      have HRD := hide hrd
      have HCG := hide hcg
      clear hrd hcg
      have hlt' : (i : Int) < (nC : Int) := by omega
      go_wp2_with (go_at_call 125; refine (paper_any i _ (by omega)).mono ?_; rintro e w1 ⟨rfl, hx1⟩)
      have hE1 := HE.out.trans hx1
      have hbx := Box.new w1 (paperS i) ⟨#[]⟩
      have hE2 := hE1.alloc (.cells #[.string (paperS i), .string ⟨#[]⟩] 122)
      generalize w1.alloc (.cells #[.string (paperS i), .string ⟨#[]⟩] 122) = w2 at hbx hE2 ⊢
      generalize w1.heap.size = bb at hbx ⊢
      have HBX := hide hbx
      have HE2 := hide hE2
      clear hcg2 hcY2 hx1 hE1 hbx hE2
      go_loopw [5] (fun k wr => ∃ q : Nat, q ≤ 4 ∧ k = .int .i64 q ∧ Ext w2 wr) (fun k _ => 4 - (intOf k).toNat)
      case atStart => exact ⟨0, Nat.zero_le _, rfl, Ext.refl _⟩
      case round =>
        obtain ⟨q, hq, rfl, hE3⟩ := hrel
        have hcY3 := hE3.cell (HE2.out.cell hcY)
        have hcg3 := hE3.cell (HE2.out.cell HCG.out)
        have HE3 := hide hE3
        clear hE3
        by_cases hq4 : q < 4
        · obtain ⟨aq, mq, cq, hcq, hmq, hrow⟩ := HRD.out.list q hq4
          have HCQ := hide hcq
          have HRW := hide hrow
          unfold maxLen at hmq
          have hq4' : (q : Int) < 4 := by omega
          clear hcq hrow
          go_wp2_with fail
          go_loopw [6] (fun j wr => ∃ p : Nat, p ≤ mq ∧ j = .int .i64 p ∧ Ext w2 wr) (fun j _ => mq - (intOf j).toNat)
          case atStart => exact ⟨0, Nat.zero_le _, rfl, HE3.out⟩
          case round =>
            obtain ⟨p, hp, rfl, hE4⟩ := hrel
            have hcY4 := hE4.cell (HE2.out.cell hcY)
            have hcg4 := hE4.cell (HE2.out.cell HCG.out)
            have hcq4 := hE4.cell (HE2.out.cell HCQ.out)
            have hcb0 := hE4.cell HBX.out.cell0
            have hcb1 := hE4.cell HBX.out.cell1
            have HE4 := hide hE4
            by_cases hpm : p < mq
            · obtain ⟨g', rfl, hcell⟩ : ∃ g, aq = some ⟨g, 0, none⟩ ∧ ∀ j, j < mq * 2 → w.cell? ⟨g, j, none⟩ = some (FC i j) := by
                rcases HRW.out with h | h
                · omega
                · exact h
              have hc0 := hE4.cell (HE2.out.cell (hcell (p * 2) (by omega)))
              have hc1 := hE4.cell (HE2.out.cell (hcell (p * 2 + 1) (by omega)))
              rw [FC_even] at hc0
              rw [FC_odd] at hc1
              have hpm' : (p : Int) < (mq : Int) := by omega
              clear hcell hE4
              generalize paperS i = X at hc0 hcb0
              go_wp2_with fail
              go_quiet (fail)
              have hE5 := HE4.out.trans (drewN_ext wr nq)
              go_wp2
              go_roundw
              case rel => exact ⟨p + 1, by omega, by go_num, hE5⟩
              case measure => simp [intOf]; omega
            · clear hE4
              go_wp2
              go_roundw
              case rel => exact ⟨q + 1, by omega, by go_num, HE4.out⟩
              case measure => simp [intOf]; omega
        · go_wp2
          go_roundw
          case rel => exact ⟨i + 1, by omega, by go_num, HE2.out.trans HE3.out⟩
          case measure => simp [intOf]; omega
    · go_wp2
      go_ret
      exact ⟨rfl, HE.out⟩
end Go.Proofs.YtoijpogadkogcaaGreat
