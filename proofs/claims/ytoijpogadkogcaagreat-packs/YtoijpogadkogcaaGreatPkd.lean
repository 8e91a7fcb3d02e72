/-
  A step that packs or unpacks.
-/
import Derived.Test.YtoijpogadkogcaaGreatPk
namespace Go.Proofs.YtoijpogadkogcaaGreat
open Go.RowKit
set_option maxRecDepth 100000

/-- The block that a slice lies in. -/
def blk : Value → Option Nat
  | .slice (some a) _ _ => some a.block
  | _ => none
theorem cell_same {w w' : World} {a : Addr} (h : w'.heap[a.block]? = w.heap[a.block]?) : w'.cell? a = w.cell? a := by
  unfold World.cell?
  simp only [h]
theorem IsPairs.but {X : Nat → Prop} {w w' : World} {v : Value} {m : List (List UInt8 × List UInt8)} (h : IsPairs w v m) (b : But X w w') (hx : m = [] ∨ ∀ k, blk v = some k → k < w.heap.size → ¬ X k) : IsPairs w' v m := by
  obtain ⟨a, cap, rfl, h1, h2, h3⟩ := h
  refine ⟨a, cap, rfl, h1, h2, ?_⟩
  rcases h3 with h3 | ⟨k, o, rfl, h4⟩
  · exact .inl h3
  · rcases hx with hx | hx
    · exact .inl hx
    · refine .inr ⟨k, o, rfl, fun i hi => ?_⟩
      have hlt := lt_of_cell (h4 i hi).1
      have hs := b.block k hlt (hx k rfl hlt)
      rw [cell_same (a := ⟨k, o + i * 2, none⟩) hs, cell_same (a := ⟨k, o + i * 2 + 1, none⟩) hs]
      exact h4 i hi
theorem IsBytes.but {X : Nat → Prop} {w w' : World} {v : Value} {l : List UInt8} (h : IsBytes w v l) (b : But X w w') (hx : l = [] ∨ ∀ k, blk v = some k → k < w.heap.size → ¬ X k) : IsBytes w' v l := by
  obtain ⟨a, cap, rfl, h1, h2, h3⟩ := h
  refine ⟨a, cap, rfl, h1, h2, ?_⟩
  rcases h3 with h3 | ⟨k, o, rfl, h4⟩
  · exact .inl h3
  · rcases hx with hx | hx
    · exact .inl hx
    · refine .inr ⟨k, o, rfl, fun i hi => ?_⟩
      have hlt := lt_of_cell (h4 i hi)
      rw [cell_same (a := ⟨k, o + i, none⟩) (b.block k hlt (hx k rfl hlt))]
      exact h4 i hi

/-- A step of a script as it lies in memory. -/
structure OpIs (w : World) (Y : Nat) (va vc : Value) (o : Value) (K : Int) (d : List UInt8) (m : List (List UInt8 × List UInt8)) : Prop where
  shape : ∃ (C A B : Int) (a a' : Option Addr) (cap cap' : Nat), o = .agg #[.int .i64 K, .int .i64 C, .int .i64 A, .int .i64 B, .slice a d.length cap, .slice a' m.length cap'] ∧ IsBytes w (.slice a d.length cap) d ∧ IsPairs w (.slice a' m.length cap') m ∧
    (d = [] ∨ ∀ k, blk (.slice a d.length cap) = some k → k < w.heap.size → k ≠ Y ∧ va.ownBlock ≠ some k ∧ vc.ownBlock ≠ some k) ∧
    (m = [] ∨ ∀ k, blk (.slice a' m.length cap') = some k → k < w.heap.size → k ≠ Y ∧ va.ownBlock ≠ some k ∧ vc.ownBlock ≠ some k)
  dlen : d.length ≤ 140737488351232
  mlen : m.length ≤ 4398046510976
  text : ∀ p ∈ m, p.1.length ≤ maxLen ∧ p.2.length ≤ maxLen

set_option maxHeartbeats 6400000 in
theorem packed_pack (w0 : World) (Y : Nat) (va vc : Value) (nA nC BA BC : Nat) (o : Value) (d : List UInt8) (m : List (List UInt8 × List UInt8)) (w : World) (inv : Inv w0 Y w va vc nA nC BA BC)
    (ho : OpIs w Y va vc o 1 d m) (hnA : nA ≤ 4398046511000) (hnC : nC ≤ 4398046511000) :
    Calls Tryz.prog 54 #[.pointer (some ⟨Y, 0, none⟩), o] w fun e w' => e = .returned (.bool true) ∧ ∃ va' vc' nA' nC' BA' BC', nA' ≤ nA + 1 ∧ nC' ≤ nC + 1 ∧ Inv w0 Y w' va' vc' nA' nC' BA' BC' := by
  obtain ⟨C, A, B, a, a', cap, cap', rfl, hD, hH, _, hsafe⟩ := ho.shape
  have hml := ho.mlen
  have htx := ho.text
  have HI := hide inv.wide
  have HH := hide hH
  have HS := hide hsafe
  have HT := hide htx
  clear hD hH hsafe htx inv ho
  go_enter Tryz.func54, Tryz.ntmps54
  go_wp2_with fail
  have hE1 : Ext w (w.alloc (.cells #[.int .i64 1, .int .i64 C, .int .i64 A, .int .i64 B, .slice a d.length cap, .slice a' m.length cap'] 71)) := (Ext.refl w).alloc _
  have hbx := heap_alloc_new w (.cells #[.int .i64 1, .int .i64 C, .int .i64 A, .int .i64 B, .slice a d.length cap, .slice a' m.length cap'] 71)
  have hsz1 : w.heap.size + 1 = (w.alloc (.cells #[.int .i64 1, .int .i64 C, .int .i64 A, .int .i64 B, .slice a d.length cap, .slice a' m.length cap'] 71)).heap.size := by simp
  generalize w.alloc (.cells #[.int .i64 1, .int .i64 C, .int .i64 A, .int .i64 B, .slice a d.length cap, .slice a' m.length cap'] 71) = w1 at hE1 hbx hsz1 ⊢
  refine (lentPairs_any _ m w1 (HH.out.ext hE1) (by omega)).mono ?_
  rintro e w2 ⟨g, rfl, hl2, hE2⟩
  have hx2 := (hE2.block _ (by omega)).trans hbx
  have hc5 : w2.cell? ⟨w.heap.size, 5, none⟩ = some (.slice a' m.length cap') := by simp [World.cell?, hx2]
  have HX2 := hide hx2
  have HL2 := hide (hl2.low (base' := w.heap.size) (by omega))
  have HE2 := hide (hE1.trans hE2)
  have hs2 : w.heap.size < w2.heap.size := by have := hE2.size; omega
  clear hl2 hE2 hx2 hbx hE1 hsz1
  go_wp2_with fail
  refine (fPack_one g m w2 HL2.out.is HT.out).mono ?_
  rintro e w3 ⟨v3, rfl, ho3, hE3⟩
  have hc53 := hE3.cell hc5
  have HO3 := hide ho3
  have HE3 := hide hE3
  clear ho3 hE3
  go_wp2_with fail
  refine (rPack_one _ m w3 (HH.out.ext (HE2.out.trans HE3.out)) HT.out).mono ?_
  rintro e w4 ⟨v4, rfl, ho4, hE4⟩
  have hE34 := HE3.out.trans hE4
  have hE04 := HE2.out.trans hE34
  have HO34 := hide (owns_mono (owns_ext HO3.out hE4) (b' := w.heap.size) (by omega))
  have HB4 := hide (IsBytes.ofOwns ho4)
  have HI4 := hide (HI.out.next hE04)
  have hx4 := (hE34.block _ hs2).trans HX2.out
  have hlP4 := HL2.out.ext hE34
  have HH4 := hide (HH.out.ext hE04)
  have hs4 : w.heap.size < w4.heap.size := by have := hE34.size; omega
  have HX4 := hide hx4
  have HL4 := hide hlP4
  have HZ := hide (packedOf_le m)
  clear ho4 hE4 hE34 hE04 hx4 hlP4 hc5 hc53
  generalize pcode m = pc
  go_wp2_with fail
  refine (bytesTold_any w0 Y va vc nA nC w.heap.size w.heap.size v3 v4 (packedOf m) w4 HI4.out HO34.out HB4.out (by have := HZ.out; omega) (by omega)).mono ?_
  rintro e w5 ⟨rfl, va', hI5, hb5⟩
  have hXx : ∀ k cur T, w4.heap[k]? = some (.cells cur T (0, 0)) → T ≠ 68 → T ≠ 137 → T ≠ 5 → ¬ (k = Y ∨ va.ownBlock = some k ∨ v3.ownBlock = some k) := by
    rintro k cur T hc h1 h2 h3 (rfl | e | e)
    · exact no_two hc HI4.out.heapY h1
    · obtain ⟨_, c, hc'⟩ := HI4.out.pa.own k e; exact no_two hc hc' h2
    · obtain ⟨c, hc'⟩ := own_ty HO34.out k e; exact no_two hc hc' h3
  have hx5 := (hb5.block _ hs4 (hXx _ _ _ HX4.out (by decide) (by decide) (by decide))).trans HX4.out
  have hc55 : w5.cell? ⟨w.heap.size, 5, none⟩ = some (.slice a' m.length cap') := by simp [World.cell?, hx5]
  have hl5 := HL4.out.but hb5 (fun k cur hc _ => hXx k cur _ hc (by decide) (by decide) (by decide))
  have hH5 := HH4.out.but hb5 (by
    rcases HS.out with h | h
    · exact .inl h
    · by_cases hm : m = []
      · exact .inl hm
      · refine .inr (fun k hk hlt hX => ?_)
        have hlt0 : k < w.heap.size := by
          obtain ⟨a1, c1, e1, _, _, h4⟩ := HH.out
          rcases h4 with h4 | ⟨b, o, e2, h5⟩
          · exact (hm h4).elim
          · simp only [Value.slice.injEq] at e1
            rw [e1.1, e2] at hk
            simp only [blk, Option.some.injEq] at hk
            subst hk
            exact lt_of_cell (h5 0 (by cases m; exact (hm rfl).elim; simp)).1
        obtain ⟨h1, h2, _⟩ := h k hk hlt0
        rcases hX with hX | hX | hX
        · exact h1 hX
        · exact h2 hX
        · have := (HO34.out.lt k hX).1; omega)
  have HI5 := hide hI5
  have HL5 := hide hl5
  have HH5 := hide hH5
  clear hI5 hl5 hH5 hx5 hb5 hXx
  go_wp2_with fail
  refine (returnedPairs_any w0 Y va' vc (nA + 1) nC w5.heap.size w.heap.size _ g m w5 HI5.out HL5.out HH5.out (by omega) (by omega)).mono ?_
  rintro e w6 ⟨rfl, vc', nC', BC', hn', hI6⟩
  have HI6 := hide hI6
  clear hI6
  go_wp2
  go_ret
  exact ⟨rfl, va', vc', nA + 1, nC', _, _, by omega, hn', HI6.out⟩
end Go.Proofs.YtoijpogadkogcaaGreat
