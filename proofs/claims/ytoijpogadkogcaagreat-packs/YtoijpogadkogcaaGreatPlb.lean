/-
  A script is played: each answer is the document's, and every list stays its owner's.
-/
import Derived.Test.YtoijpogadkogcaaGreatPly
namespace Go.Proofs.YtoijpogadkogcaaGreat
open Go.RowKit
set_option maxRecDepth 100000

/-- A step of the script as it was handed in. -/
def StepAt (w : World) (b p : Nat) : Prop :=
  ∃ (K C A B : Int) (a a' : Option Addr) (cap cap' : Nat) (d : List UInt8) (m : List (List UInt8 × List UInt8)),
    w.cell? ⟨b, p, none⟩ = some (.int .i64 K) ∧ w.cell? ⟨b, p + 1, none⟩ = some (.int .i64 C) ∧ w.cell? ⟨b, p + 2, none⟩ = some (.int .i64 A) ∧ w.cell? ⟨b, p + 3, none⟩ = some (.int .i64 B) ∧
    w.cell? ⟨b, p + 4, none⟩ = some (.slice a d.length cap) ∧ w.cell? ⟨b, p + 5, none⟩ = some (.slice a' m.length cap') ∧ IsBytes w (.slice a d.length cap) d ∧ IsPairs w (.slice a' m.length cap') m ∧
    d.length ≤ 140737488351232 ∧ m.length ≤ 4398046510976 ∧ ∀ p ∈ m, p.1.length ≤ maxLen ∧ p.2.length ≤ maxLen
def ScriptIs (w : World) (v : Value) (n : Nat) : Prop :=
  ∃ a cap, v = .slice a n cap ∧ n ≤ cap ∧ cap ≤ maxLen ∧ (n = 0 ∨ ∃ b o, a = some ⟨b, o, none⟩ ∧ ∀ i, i < n → StepAt w b (o + i * 6))

theorem Part.empty (w : World) (base TR TL T sz : Nat) (F : Nat → Nat → Value) (B : Nat) : Part w base TR TL T sz F B (.slice none 0 0) 0 := ⟨[], World.ownsRow_nil _ _ _ _, fun i h => by omega⟩
theorem But.cell {X : Nat → Prop} {w w' : World} (h : But X w w') {a : Addr} {v : Value} (hx : ¬ X a.block) (hc : w.cell? a = some v) : w'.cell? a = some v := by
  rw [cell_same (h.block a.block (lt_of_cell hc) hx)]
  exact hc

set_option maxHeartbeats 6400000 in
theorem plays_any (v : Value) (n : Nat) (w : World) (hs : ScriptIs w v n) (hn : n ≤ 1759218604442) :
    Calls Tryz.prog 10 #[v, .int .i64 2, .slice none 0 0] w fun e w' => e = .returned (.bool true) ∧ Ext w w' := by
  obtain ⟨a, cap, rfl, hc1, hc2, hsc⟩ := hs
  have HSC := hide hsc
  unfold maxLen at hc2
  clear hsc
  go_enter Tryz.func10, Tryz.ntmps10
  go_wp2_with fail
  have hE1 : Ext w (w.alloc (.cells #[.slice none 0 0, .slice none 0 0, .slice none 0 0, .slice none 0 0] 68)) := (Ext.refl w).alloc _
  have hY1 := heap_alloc_new w (.cells #[.slice none 0 0, .slice none 0 0, .slice none 0 0, .slice none 0 0] 68)
  have hz1 : w.heap.size + 1 = (w.alloc (.cells #[.slice none 0 0, .slice none 0 0, .slice none 0 0, .slice none 0 0] 68)).heap.size := by simp
  generalize w.alloc (.cells #[.slice none 0 0, .slice none 0 0, .slice none 0 0, .slice none 0 0] 68) = w1 at hE1 hY1 hz1 ⊢
  refine (head_any w1).mono ?_
  rintro e w2 ⟨hb, b, rfl, hE2, hb1, hb2, hH, h0, h1, h2, h3, h4, h5, h6, hhb⟩
  have hY2 := (hE2.block w.heap.size (by omega)).trans hY1
  have HI0 : Hid (Inv w2 w.heap.size w2 (.slice none 0 0) (.slice none 0 0) 0 0 w2.heap.size w2.heap.size) :=
    ⟨But.refl _ _, hY2, Part.empty _ _ _ _ _ _ _ _, Part.empty _ _ _ _ _ _ _ _, Nat.le_refl _, Nat.le_refl _, Nat.le_refl _, Nat.le_refl _⟩
  have HE02 := hide (hE1.trans hE2)
  have hop : OpIs w2 w.heap.size (.slice none 0 0) (.slice none 0 0) (.agg #[.int .i64 1, .int .i64 0, .int .i64 0, .int .i64 0, .slice none 0 0, .slice (some ⟨b, 0, none⟩) 2 2]) 1 [] headH :=
    ⟨⟨0, 0, 0, none, some ⟨b, 0, none⟩, 0, 2, rfl, ⟨none, 0, rfl, by simp, by simp [maxLen], .inl rfl⟩, hH, .inl rfl, .inr (fun k hk _ => by
      simp only [blk, Option.some.injEq] at hk
      subst hk
      exact ⟨by omega, by simp [Value.ownBlock], by simp [Value.ownBlock]⟩)⟩, by simp, by decide, by decide⟩
  have HOP := hide hop
  have hhY : hb ≠ w.heap.size := by omega
  clear hE1 hE2 hY1 hY2 hop hz1 hH hb1 hhb
  go_wp2_with fail
  go_loopw [9, 10] (fun s i wr => s = .bool true ∧ ((i = .int .i64 0 ∧ Hid (wr = w2)) ∨ (i = .int .i64 1 ∧ ∃ va vc nA nC BA BC, nA ≤ 1 ∧ nC ≤ 1 ∧ Hid (Inv w2 w.heap.size wr va vc nA nC BA BC)))) (fun _ i _ => 1 - (intOf i).toNat)
  case atStart => exact ⟨rfl, .inl ⟨rfl, rfl⟩⟩
  case round =>
    obtain ⟨rfl, hrel⟩ := hrel
    rcases hrel with ⟨rfl, HW⟩ | ⟨rfl, va, vc, nA, nC, BA, BC, hnA, hnC, HI⟩
    · have hw := HW.out
      subst hw
      clear HW
      go_wp2_with (go_at_call 25; refine (step_any _ w.heap.size _ _ 0 0 _ _ _ 1 [] headH _ HI0.out (by omega) HOP.out (by omega) (by omega)).mono ?_; rintro e w3 ⟨rfl, va, vc, nA, nC, BA, BC, hnA, hnC, hI3⟩)
      have HI3 := hide hI3
      clear hI3
      go_wp2
      exact ⟨⟨rfl, .inr ⟨rfl, va, vc, nA, nC, BA, BC, by omega, by omega, HI3⟩⟩, by simp [intOf]⟩
    · have hk6 := HI.out.ext.cell hhY h6
      go_wp2_with fail
      clear hk6
      go_loopw [9, 11] (fun s i wz => s = .bool true ∧ ∃ k : Nat, k ≤ n ∧ i = .int .i64 k ∧ ∃ va vc nA nC BA BC, nA ≤ 1 + k ∧ nC ≤ 1 + k ∧ Hid (Inv w2 w.heap.size wz va vc nA nC BA BC)) (fun _ i _ => n - (intOf i).toNat)
      case atStart => exact ⟨rfl, 0, Nat.zero_le _, rfl, va, vc, nA, nC, BA, BC, hnA, hnC, HI⟩
      case round =>
        clear HI hnA hnC
        obtain ⟨rfl, k, hk, rfl, va, vc, nA, nC, BA, BC, hnA, hnC, HI⟩ := hrel
        by_cases hlt : k < n
        · obtain ⟨sb, so, rfl, hst⟩ : ∃ b o, a = some ⟨b, o, none⟩ ∧ StepAt w b (o + k * 6) := by
            rcases HSC.out with h | ⟨b, o, h, h'⟩
            · omega
            · exact ⟨b, o, h, h' k hlt⟩
          obtain ⟨K, C, A, B, da, ha, dcap, hcap, d, m, c0, c1, c2, c3, c4, c5, hD, hH, hdl, hml, htx⟩ := hst
          have hsb : sb < w.heap.size := lt_of_cell c0
          have hsne : sb ≠ w.heap.size := by omega
          have c0 := HI.out.ext.cell (a := ⟨sb, so + k * 6, none⟩) hsne (HE02.out.cell c0)
          have c1 := HI.out.ext.cell (a := ⟨sb, so + k * 6 + 1, none⟩) hsne (HE02.out.cell c1)
          have c2 := HI.out.ext.cell (a := ⟨sb, so + k * 6 + 2, none⟩) hsne (HE02.out.cell c2)
          have c3 := HI.out.ext.cell (a := ⟨sb, so + k * 6 + 3, none⟩) hsne (HE02.out.cell c3)
          have c4 := HI.out.ext.cell (a := ⟨sb, so + k * 6 + 4, none⟩) hsne (HE02.out.cell c4)
          have c5 := HI.out.ext.cell (a := ⟨sb, so + k * 6 + 5, none⟩) hsne (HE02.out.cell c5)
          have hlt' : (k : Int) < (n : Int) := by omega
          by_cases hK : K ≤ 2
          · have hDb : d = [] ∨ ∀ q, blk (.slice da d.length dcap) = some q → q < w.heap.size := by
              obtain ⟨a1, c1, e1, _, _, h4⟩ := hD
              rcases h4 with h4 | ⟨b, o, e2, h5⟩
              · exact .inl h4
              · by_cases hd : d = []
                · exact .inl hd
                · refine .inr (fun q hq => ?_)
                  simp only [Value.slice.injEq] at e1
                  rw [e1.1, e2] at hq
                  simp only [blk, Option.some.injEq] at hq
                  subst hq
                  exact lt_of_cell (h5 0 (by cases d; exact (hd rfl).elim; simp))
            have hHb : m = [] ∨ ∀ q, blk (.slice ha m.length hcap) = some q → q < w.heap.size := by
              obtain ⟨a1, c1, e1, _, _, h4⟩ := hH
              rcases h4 with h4 | ⟨b, o, e2, h5⟩
              · exact .inl h4
              · by_cases hd : m = []
                · exact .inl hd
                · refine .inr (fun q hq => ?_)
                  simp only [Value.slice.injEq] at e1
                  rw [e1.1, e2] at hq
                  simp only [blk, Option.some.injEq] at hq
                  subst hq
                  exact lt_of_cell (h5 0 (by cases m; exact (hd rfl).elim; simp)).1
            have hw2 := HE02.out.size
            have hsafe : ∀ q, q < w.heap.size → q ≠ w.heap.size ∧ va.ownBlock ≠ some q ∧ vc.ownBlock ≠ some q := fun q hq => ⟨by omega, fun e => by have := (HI.out.pa.own q e).1; omega, fun e => by have := (HI.out.pc.own q e).1; omega⟩
            have hop : OpIs wr w.heap.size va vc (.agg #[.int .i64 K, .int .i64 C, .int .i64 A, .int .i64 B, .slice da d.length dcap, .slice ha m.length hcap]) K d m :=
              ⟨⟨C, A, B, da, ha, dcap, hcap, rfl,
                (hD.ext HE02.out).but HI.out.ext (by rcases hDb with h | h; exact .inl h; exact .inr (fun q hq _ e => by have := h q hq; omega)),
                (hH.ext HE02.out).but HI.out.ext (by rcases hHb with h | h; exact .inl h; exact .inr (fun q hq _ e => by have := h q hq; omega)),
                (by rcases hDb with h | h; exact .inl h; exact .inr (fun q hq _ => hsafe q (h q hq))),
                (by rcases hHb with h | h; exact .inl h; exact .inr (fun q hq _ => hsafe q (h q hq)))⟩, hdl, hml, htx⟩
            have HOP2 := hide hop
            clear hD hH hDb hHb hsafe hop htx
            go_wp2_with (go_at_call 25; refine (step_any w2 w.heap.size va vc nA nC BA BC _ K d m _ HI.out (by omega) HOP2.out (by omega) (by omega)).mono ?_; rintro e w3 ⟨rfl, va', vc', nA', nC', BA', BC', hnA', hnC', hI3⟩)
            have HI3 := hide hI3
            clear hI3 c0 c1 c2 c3 c4 c5
            go_wp2_with fail
            refine (whole_any w.heap.size w2.heap.size BA' BC' nA' nC' va' vc' w3 HI3.out.heapY HI3.out.pa HI3.out.pc (by omega) (by omega)).mono ?_
            rintro e w4 ⟨rfl, hE4⟩
            have HI4 := hide (HI3.out.next hE4)
            clear hE4
            go_wp2
            go_roundw
            case rel => exact ⟨rfl, k + 1, by omega, by go_num, va', vc', nA', nC', BA', BC', by omega, by omega, HI4⟩
            case measure => simp [intOf]; omega
          · have hK' : (2 : Int) < K := by omega
            clear hD hH htx
            go_wp2
            go_roundw
            case rel => exact ⟨rfl, k + 1, by omega, by go_num, va, vc, nA, nC, BA, BC, by omega, by omega, HI⟩
            case measure => simp [intOf]; omega
        · have HX : Hid (Ext w wr) := ⟨HI.out.ext.os.trans HE02.out.os, HI.out.ext.tape.trans HE02.out.tape, HI.out.ext.output.trans HE02.out.output, Nat.le_trans HE02.out.size HI.out.ext.size, fun q hq => (HI.out.ext.block q (Nat.lt_of_lt_of_le hq HE02.out.size) (by omega)).trans (HE02.out.block q hq)⟩
          go_wp2
          go_ret
          exact ⟨rfl, HX.out⟩

theorem packs_any (v : Value) (n : Nat) (w : World) (hs : ScriptIs w v n) (hn : n ≤ 1759218604442) :
    Calls Tryz.prog 3 #[v] w fun e w' => e = .returned (.bool true) ∧ Ext w w' := by
  go_enter Tryz.func3, Tryz.ntmps3
  go_wp2_with (go_at_call 10; refine (plays_any v n w hs hn).mono ?_; rintro e w' ⟨rfl, hE⟩)
  go_ret
  exact ⟨rfl, hE⟩
end Go.Proofs.YtoijpogadkogcaaGreat
