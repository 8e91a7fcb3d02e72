/-
  The book: does every list read as its owner wrote it? (all of it)
-/
import Derived.Test.YtoijpogadkogcaaGreatBkG
namespace Go.Proofs.YtoijpogadkogcaaGreat
open Go.RowKit
set_option maxRecDepth 100000

theorem Part.ext {w w' : World} {base TR TL T sz : Nat} {F : Nat → Nat → Value} {B : Nat} {v : Value} {n : Nat} (h : Part w base TR TL T sz F B v n) (e : Ext w w') : Part w' base TR TL T sz F B v n :=
  h.keeps (TL := TL) (fun k cur Ty _ hc _ => e.block k (Array.getElem?_eq_some_iff.1 hc).1) (fun g hv => by obtain ⟨xs, hx, _⟩ := h; exact e.block g (hx.lt g hv).2)

set_option maxHeartbeats 6400000 in
theorem whole_any (Y base B B' nA nC : Nat) (va vc : Value) (w : World) (hY : w.heap[Y]? = some (.cells #[.slice none 0 0, va, .slice none 0 0, vc] 68 (0, 0)))
    (hP : Part w base 137 34 5 1 FA B va nA) (hPc : Part w base 169 43 122 2 FC B' vc nC) (hnA : nA ≤ 4398046511104) (hnC : nC ≤ 4398046511104) :
    Calls Tryz.prog 26 #[.pointer (some ⟨Y, 1, none⟩)] w fun e w' => e = .returned (.bool true) ∧ Ext w w' := by
  obtain ⟨a, cap, rfl, hcap1, hcap2, hR⟩ := hP.reads
  have HR := hide hR
  have HPC := hide hPc
  have HY := hide hY
  unfold maxLen at hcap2
  have hcY : w.cell? ⟨Y, 1, none⟩ = some (.slice a nA cap) := by simp [World.cell?, hY]
  have hcY' : w.cell? ⟨Y, 2, none⟩ = some (.slice none 0 0) := by simp [World.cell?, hY]
  clear hR hP hY hPc
  go_enter Tryz.func26, Tryz.ntmps26
  go_wp2_with fail
  go_loopw [3] (fun i wr => ∃ k : Nat, k ≤ nA ∧ i = .int .i64 k ∧ Ext w wr) (fun i _ => nA - (intOf i).toNat)
  case atStart => exact ⟨0, Nat.zero_le _, rfl, Ext.refl _⟩
  case round =>
    obtain ⟨i, hi, rfl, hE⟩ := hrel
    have hcY2 := hE.cell hcY
    have hcY2' := hE.cell hcY'
    have HE := hide hE
    clear hE
    by_cases hlt : i < nA
    · obtain ⟨g, b, rfl, hcg, hrd⟩ := HR.out i hlt
      have hcg2 := HE.out.cell hcg
      have HRD := hide hrd
      have HCG := hide hcg
      clear hrd hcg
      have hlt' : (i : Int) < (nA : Int) := by omega
      go_wp2_with fail
      go_loopw [4] (fun k wr => ∃ q : Nat, q ≤ 4 ∧ k = .int .i64 q ∧ Ext w wr) (fun k _ => 4 - (intOf k).toNat)
      case atStart => exact ⟨0, Nat.zero_le _, rfl, HE.out⟩
      case round =>
        obtain ⟨q, hq, rfl, hE3⟩ := hrel
        have hcY3 := hE3.cell hcY
        have hcg3 := hE3.cell HCG.out
        have HE3 := hide hE3
        clear hE3
        by_cases hq4 : q < 4
        · obtain ⟨aq, mq, cq, hcq, hmq, hrow⟩ := HRD.out.list q hq4
          have HCQ := hide hcq
          have HRW := hide hrow
          have HMQ := hide hmq
          unfold maxLen at hmq
          have hq4' : (q : Int) < 4 := by omega
          clear hcq hrow
          go_wp2_with fail
          go_loopw [5] (fun j wr => ∃ p : Nat, p ≤ mq ∧ j = .int .i64 p ∧ Ext w wr) (fun j _ => mq - (intOf j).toNat)
          case atStart => exact ⟨0, Nat.zero_le _, rfl, HE3.out⟩
          case round =>
            obtain ⟨p, hp, rfl, hE4⟩ := hrel
            have hcY4 := hE4.cell hcY
            have hcg4 := hE4.cell HCG.out
            have hcq4 := hE4.cell HCQ.out
            have HE4 := hide hE4
            by_cases hpm : p < mq
            · obtain ⟨g', rfl, hcell⟩ : ∃ g, aq = some ⟨g, 0, none⟩ ∧ ∀ j, j < mq * 1 → w.cell? ⟨g, j, none⟩ = some (FA i j) := by
                rcases HRW.out with h | h
                · omega
                · exact h
              have hc0 : wr.cell? ⟨g', p, none⟩ = some (.int .u8 (sg i p : Int)) := hE4.cell (hcell p (by omega))
              have hpm' : (p : Int) < (mq : Int) := by omega
              clear hcell hE4
              have hsg : ∀ w, Calls Tryz.prog 66 #[.int .i64 (i : Int), .int .i64 (p : Int)] w fun e w' => e = .returned (.int .u8 (sg i p : Int)) ∧ w' = w := fun w => sign_any i p w (by omega) (by omega)
              generalize (sg i p : Int) = x at hc0 hsg
              have HSG := hide hsg
              clear hsg
              go_wp2_with fail
              go_quiet ((go_at_call 66; exact Calls.quiet_of_same (HSG.out _)))
              have hE5 := HE4.out.trans (drewN_ext wr nq)
              go_wp2
              go_roundw
              case rel => exact ⟨p + 1, by omega, by go_num, hE5⟩
              case measure => simp [intOf]; omega
            · clear hE4
              go_wp2
              go_roundw
              case rel => exact ⟨q + 1, by omega, by go_num, HE4.out⟩
              case measure => simp [intOf]; omega
        · go_wp2
          go_roundw
          case rel => exact ⟨i + 1, by omega, by go_num, HE3.out⟩
          case measure => simp [intOf]; omega
    · go_wp2_with fail
      go_loopw [6] (fun i wx => i = .int .i64 0 ∧ Hid (wx = wr)) (fun _ _ => 0)
      case atStart => exact ⟨rfl, rfl⟩
      case round =>
        obtain ⟨rfl, HW⟩ := hrel
        have hw := HW.out
        subst hw
        go_wp2_with (go_at_call 68; refine (pairsWhole_any Y base B' nC _ vc _ ((HE.out.block Y (Array.getElem?_eq_some_iff.1 HY.out).1).trans HY.out) (HPC.out.ext HE.out) hnC).mono ?_; rintro e w1 ⟨rfl, hx1⟩)
        go_ret
        exact ⟨rfl, HE.out.trans hx1⟩
end Go.Proofs.YtoijpogadkogcaaGreat
