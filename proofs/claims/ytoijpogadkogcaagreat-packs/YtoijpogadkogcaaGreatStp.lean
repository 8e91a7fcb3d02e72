/-
  A step that unpacks; a step.
-/
import Derived.Test.YtoijpogadkogcaaGreatPkd
namespace Go.Proofs.YtoijpogadkogcaaGreat
open Go.RowKit
set_option maxRecDepth 100000

set_option maxHeartbeats 6400000 in
theorem packed_unpack (w0 : World) (Y : Nat) (va vc : Value) (nA nC BA BC : Nat) (o : Value) (d : List UInt8) (m : List (List UInt8 × List UInt8)) (w : World) (inv : Inv w0 Y w va vc nA nC BA BC)
    (ho : OpIs w Y va vc o 2 d m) (hnA : nA ≤ 4398046511000) (hnC : nC ≤ 4398046511000) :
    Calls Tryz.prog 54 #[.pointer (some ⟨Y, 0, none⟩), o] w fun e w' => e = .returned (.bool true) ∧ ∃ va' vc' nA' nC' BA' BC', nA' ≤ nA + 1 ∧ nC' ≤ nC + 1 ∧ Inv w0 Y w' va' vc' nA' nC' BA' BC' := by
  obtain ⟨C, A, B, a, a', cap, cap', rfl, hD, hH, hsafe, _⟩ := ho.shape
  have hdl := ho.dlen
  have HI := hide inv.wide
  have HH := hide hD
  have HS := hide hsafe
  clear hD hH hsafe inv ho
  go_enter Tryz.func54, Tryz.ntmps54
  go_wp2_with fail
  have hE1 : Ext w (w.alloc (.cells #[.int .i64 2, .int .i64 C, .int .i64 A, .int .i64 B, .slice a d.length cap, .slice a' m.length cap'] 71)) := (Ext.refl w).alloc _
  have hbx := heap_alloc_new w (.cells #[.int .i64 2, .int .i64 C, .int .i64 A, .int .i64 B, .slice a d.length cap, .slice a' m.length cap'] 71)
  have hsz1 : w.heap.size + 1 = (w.alloc (.cells #[.int .i64 2, .int .i64 C, .int .i64 A, .int .i64 B, .slice a d.length cap, .slice a' m.length cap'] 71)).heap.size := by simp
  generalize w.alloc (.cells #[.int .i64 2, .int .i64 C, .int .i64 A, .int .i64 B, .slice a d.length cap, .slice a' m.length cap'] 71) = w1 at hE1 hbx hsz1 ⊢
  refine (lent_any _ d w1 (HH.out.ext hE1) (by omega)).mono ?_
  rintro e w2 ⟨g, rfl, hl2, hE2⟩
  have hx2 := (hE2.block _ (by omega)).trans hbx
  have hc5 : w2.cell? ⟨w.heap.size, 4, none⟩ = some (.slice a d.length cap) := by simp [World.cell?, hx2]
  have HX2 := hide hx2
  have HL2 := hide (hl2.low (base' := w.heap.size) (by omega))
  have HE2 := hide (hE1.trans hE2)
  have hs2 : w.heap.size < w2.heap.size := by have := hE2.size; omega
  clear hl2 hE2 hx2 hbx hE1 hsz1
  go_wp2_with fail
  refine (fUnpack_one g d w2 HL2.out.is).mono ?_
  rintro e w3 ⟨v3, rfl, ho3, hE3⟩
  have hc53 := hE3.cell hc5
  have HO3 := hide ho3
  have HE3 := hide hE3
  clear ho3 hE3
  go_wp2_with fail
  refine (rUnpack_one _ d w3 (HH.out.ext (HE2.out.trans HE3.out))).mono ?_
  rintro e w4 ⟨v4, rfl, ho4, hE4⟩
  have hE34 := HE3.out.trans hE4
  have hE04 := HE2.out.trans hE34
  have HO34 := hide (owns_mono (owns_ext HO3.out hE4) (b' := w.heap.size) (by omega))
  have HB4 := hide (IsPairs.ofOwns ho4)
  have HI4 := hide (HI.out.next hE04)
  have hx4 := (hE34.block _ hs2).trans HX2.out
  have hlP4 := HL2.out.ext hE34
  have HH4 := hide (HH.out.ext hE04)
  have hs4 : w.heap.size < w4.heap.size := by have := hE34.size; omega
  have HX4 := hide hx4
  have HL4 := hide hlP4
  have HZ := hide (unpackedOf_le d)
  clear ho4 hE4 hE34 hE04 hx4 hlP4 hc5 hc53
  generalize ucode d = pc
  go_wp2_with fail
  refine (pairsTold_any w0 Y va vc nA nC w.heap.size w.heap.size v3 v4 (unpackedOf d) w4 HI4.out HO34.out HB4.out (by have := HZ.out; omega) (by omega)).mono ?_
  rintro e w5 ⟨rfl, vc', hI5, hb5'⟩
  have hb5 : But (fun k => k = Y ∨ vc.ownBlock = some k ∨ v3.ownBlock = some k) w4 w5 := hb5'.mono (fun k hk h => by
    rcases h with h | h | h | h
    · exact .inl h
    · exact .inr (.inl h)
    · exact .inr (.inr h)
    · omega)
  have hXx : ∀ k cur T, w4.heap[k]? = some (.cells cur T (0, 0)) → T ≠ 68 → T ≠ 169 → T ≠ 122 → ¬ (k = Y ∨ vc.ownBlock = some k ∨ v3.ownBlock = some k) := by
    rintro k cur T hc h1 h2 h3 (rfl | e | e)
    · exact no_two hc HI4.out.heapY h1
    · obtain ⟨_, c, hc'⟩ := HI4.out.pc.own k e; exact no_two hc hc' h2
    · obtain ⟨c, hc'⟩ := own_ty HO34.out k e; exact no_two hc hc' h3
  have hx5 := (hb5.block _ hs4 (hXx _ _ _ HX4.out (by decide) (by decide) (by decide))).trans HX4.out
  have hc55 : w5.cell? ⟨w.heap.size, 4, none⟩ = some (.slice a d.length cap) := by simp [World.cell?, hx5]
  have hl5 := HL4.out.but hb5 (fun k cur hc _ => hXx k cur _ hc (by decide) (by decide) (by decide))
  have hH5 := HH4.out.but hb5 (by
    rcases HS.out with h | h
    · exact .inl h
    · by_cases hm : d = []
      · exact .inl hm
      · refine .inr (fun k hk hlt hX => ?_)
        have hlt0 : k < w.heap.size := by
          obtain ⟨a1, c1, e1, _, _, h4⟩ := HH.out
          rcases h4 with h4 | ⟨b, o, e2, h5⟩
          · exact (hm h4).elim
          · simp only [Value.slice.injEq] at e1
            rw [e1.1, e2] at hk
            simp only [blk, Option.some.injEq] at hk
            subst hk
            exact lt_of_cell (h5 0 (by cases d; exact (hm rfl).elim; simp))
        obtain ⟨h1, _, h2⟩ := h k hk hlt0
        rcases hX with hX | hX | hX
        · exact h1 hX
        · exact h2 hX
        · have := (HO34.out.lt k hX).1; omega)
  have HI5 := hide hI5
  have HL5 := hide hl5
  have HH5 := hide hH5
  clear hI5 hl5 hH5 hx5 hb5 hb5' hXx
  go_wp2_with fail
  refine (returned_any w0 Y va vc' nA (nC + 1) w.heap.size w5.heap.size _ g d w5 HI5.out HL5.out HH5.out (by omega) (by omega)).mono ?_
  rintro e w6 ⟨rfl, va', nA', BA', hn', hI6⟩
  have HI6 := hide hI6
  clear hI6
  go_wp2
  go_ret
  exact ⟨rfl, va', vc', nA', nC + 1, _, _, hn', by omega, HI6.out⟩

theorem packed_any (w0 : World) (Y : Nat) (va vc : Value) (nA nC BA BC : Nat) (o : Value) (K : Int) (d : List UInt8) (m : List (List UInt8 × List UInt8)) (w : World) (inv : Inv w0 Y w va vc nA nC BA BC)
    (hK : K = 1 ∨ K = 2) (ho : OpIs w Y va vc o K d m) (hnA : nA ≤ 4398046511000) (hnC : nC ≤ 4398046511000) :
    Calls Tryz.prog 54 #[.pointer (some ⟨Y, 0, none⟩), o] w fun e w' => e = .returned (.bool true) ∧ ∃ va' vc' nA' nC' BA' BC', nA' ≤ nA + 1 ∧ nC' ≤ nC + 1 ∧ Inv w0 Y w' va' vc' nA' nC' BA' BC' := by
  rcases hK with rfl | rfl
  · exact packed_pack w0 Y va vc nA nC BA BC o d m w inv ho hnA hnC
  · exact packed_unpack w0 Y va vc nA nC BA BC o d m w inv ho hnA hnC
theorem OpIs.next {w w' : World} {Y : Nat} {va vc o : Value} {K : Int} {d : List UInt8} {m : List (List UInt8 × List UInt8)} (h : OpIs w Y va vc o K d m) (e : Ext w w') : OpIs w' Y va vc o K d m := by
  obtain ⟨C, A, B, a, a', cap, cap', rfl, hD, hH, hs, hs'⟩ := h.shape
  refine ⟨⟨C, A, B, a, a', cap, cap', rfl, hD.ext e, hH.ext e, ?_, ?_⟩, h.dlen, h.mlen, h.text⟩
  · obtain ⟨a1, c1, e1, _, _, h4⟩ := hD
    rcases h4 with h4 | ⟨b, o, e2, h5⟩
    · exact .inl h4
    · rcases hs with hs | hs
      · exact .inl hs
      · by_cases hd : d = []
        · exact .inl hd
        · refine .inr (fun k hk _ => hs k hk ?_)
          simp only [Value.slice.injEq] at e1
          rw [e1.1, e2] at hk
          simp only [blk, Option.some.injEq] at hk
          subst hk
          exact lt_of_cell (h5 0 (by cases d; exact (hd rfl).elim; simp))
  · obtain ⟨a1, c1, e1, _, _, h4⟩ := hH
    rcases h4 with h4 | ⟨b, o, e2, h5⟩
    · exact .inl h4
    · rcases hs' with hs | hs
      · exact .inl hs
      · by_cases hd : m = []
        · exact .inl hd
        · refine .inr (fun k hk _ => hs k hk ?_)
          simp only [Value.slice.injEq] at e1
          rw [e1.1, e2] at hk
          simp only [blk, Option.some.injEq] at hk
          subst hk
          exact lt_of_cell (h5 0 (by cases m; exact (hd rfl).elim; simp)).1

set_option maxHeartbeats 3200000 in
/-- A step of a kind that is played here. -/
theorem step_any (w0 : World) (Y : Nat) (va vc : Value) (nA nC BA BC : Nat) (o : Value) (K : Int) (d : List UInt8) (m : List (List UInt8 × List UInt8)) (w : World) (inv : Inv w0 Y w va vc nA nC BA BC)
    (hK : K ≤ 2) (ho : OpIs w Y va vc o K d m) (hnA : nA ≤ 4398046511000) (hnC : nC ≤ 4398046511000) :
    Calls Tryz.prog 25 #[.pointer (some ⟨Y, 0, none⟩), o, .slice none 0 0] w fun e w' => e = .returned (.bool true) ∧ ∃ va' vc' nA' nC' BA' BC', nA' ≤ nA + 1 ∧ nC' ≤ nC + 1 ∧ Inv w0 Y w' va' vc' nA' nC' BA' BC' := by
  have HI := hide inv
  have HO := hide ho
  obtain ⟨C, A, B, a, a', cap, cap', rfl, hD, hH, _, _⟩ := ho.shape
  clear hD hH
  have hE1 : Ext w (w.alloc (.cells #[.int .i64 K, .int .i64 C, .int .i64 A, .int .i64 B, .slice a d.length cap, .slice a' m.length cap'] 71)) := (Ext.refl w).alloc _
  have HE1 := hide hE1
  have HI1 := hide (inv.next hE1)
  have hYc : (w.alloc (.cells #[.int .i64 K, .int .i64 C, .int .i64 A, .int .i64 B, .slice a d.length cap, .slice a' m.length cap'] 71)).cell? ⟨Y, 0, none⟩ = some (.slice none 0 0) := by
    have := HI1.out.heapY
    simp only [World.cell?, this]
    rfl
  clear hE1 inv ho
  by_cases h1 : K = 1 ∨ K = 2
  · have HK := hide h1
    rcases h1 with rfl | rfl
    · go_enter Tryz.func25, Tryz.ntmps25
      go_wp2_with (go_at_call 54; refine (packed_any w0 Y va vc nA nC BA BC _ _ d m _ HI1.out HK.out (HO.out.next HE1.out) hnA hnC).mono ?_; rintro e w2 ⟨rfl, va', vc', nA', nC', BA', BC', ha, hc, hI⟩)
      have HI2 := hide hI
      clear hI
      go_ret
      exact ⟨rfl, va', vc', nA', nC', BA', BC', ha, hc, HI2.out⟩
    · go_enter Tryz.func25, Tryz.ntmps25
      go_wp2_with (go_at_call 54; refine (packed_any w0 Y va vc nA nC BA BC _ _ d m _ HI1.out HK.out (HO.out.next HE1.out) hnA hnC).mono ?_; rintro e w2 ⟨rfl, va', vc', nA', nC', BA', BC', ha, hc, hI⟩)
      have HI2 := hide hI
      clear hI
      go_ret
      exact ⟨rfl, va', vc', nA', nC', BA', BC', ha, hc, HI2.out⟩
  · have hk1 : (K == 1) = false := by rw [beq_eq_false_iff_ne]; omega
    have hk2 : (K == 2) = false := by rw [beq_eq_false_iff_ne]; omega
    have hk3 : (K == 3) = false := by rw [beq_eq_false_iff_ne]; omega
    clear h1
    go_enter Tryz.func25, Tryz.ntmps25
    go_wp2
    go_ret
    exact ⟨rfl, va, vc, nA, nC, BA, BC, by omega, by omega, HI1.out⟩
end Go.Proofs.YtoijpogadkogcaaGreat
