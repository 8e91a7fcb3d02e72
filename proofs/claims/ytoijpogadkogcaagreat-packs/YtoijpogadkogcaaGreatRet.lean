/-
  What was lent stands as it did, and what is behind it; its owner writes over it.
-/
import Derived.Test.YtoijpogadkogcaaGreatToldB
namespace Go.Proofs.YtoijpogadkogcaaGreat
open Go.RowKit
set_option maxRecDepth 100000

theorem owns_take {w : World} {base e size g c n m : Nat} {xs : List Value} (h : w.ownsRow base e size (.slice (some ⟨g, 0, none⟩) (n + m) c) (n + m) xs) : w.ownsRow base e size (.slice (some ⟨g, 0, none⟩) n c) n (xs.take (n * size)) := by
  have hl := h.1
  have hle : n * size ≤ (n + m) * size := Nat.mul_le_mul_right _ (by omega)
  refine ⟨by rw [List.length_take, hl]; omega, ?_⟩
  rcases h.2 with ⟨h2, _⟩ | ⟨g', cap, cur, h1, hb, hg, hnc, hcm, hcs, htake⟩
  · simp at h2
  · simp only [Value.slice.injEq, Option.some.injEq, Addr.mk.injEq, and_true, true_and] at h1
    obtain ⟨rfl, rfl⟩ := h1
    refine .inr ⟨g, c, cur, rfl, hb, hg, by omega, hcm, hcs, ?_⟩
    rw [← htake, List.take_take, Nat.min_eq_left hle]
theorem take_bcells (l r : List UInt8) : (bcells (l ++ r)).take (l.length * 1) = bcells l := by
  rw [Nat.mul_one, bcells_append, ← bcells_length l, List.take_left]
theorem take_pcells (l r : List (List UInt8 × List UInt8)) : (pcells (l ++ r)).take (l.length * 2) = pcells l := by
  rw [pcells_append, ← pcells_length l, List.take_left]
theorem behind_get (i : Nat) (h : i < 8) : ((behind.getD i 0).toNat : Int) = 171 + (i : Int) := by
  have : ∀ j : Fin 8, ((behind.getD j.val 0).toNat : Int) = 171 + (j.val : Int) := by decide
  exact this ⟨i, h⟩
theorem getD_left {α : Type} (l r : List α) (d : α) (i : Nat) (h : i < l.length) : (l ++ r).getD i d = l.getD i d := by
  simp [List.getD_eq_getElem?_getD, List.getElem?_append_left h]
theorem getD_right {α : Type} (l r : List α) (d : α) (i : Nat) : (l ++ r).getD (l.length + i) d = r.getD i d := by
  rw [List.getD_eq_getElem?_getD, List.getElem?_append_right (by omega), Nat.add_sub_cancel_left, List.getD_eq_getElem?_getD]

theorem returned_nil (Y n cap : Nat) (g : Value) (w : World) : Calls Tryz.prog 110 #[.pointer (some ⟨Y, 0, none⟩), g, .slice none n cap] w fun e w' => e = .returned (.bool true) ∧ w' = w := by
  have qB := Tryz.nilB
  go_enter Tryz.func110, Tryz.ntmps110
  go_wp2
  go_ret
  exact ⟨rfl, rfl⟩

set_option maxHeartbeats 3200000 in
theorem returned_some (w0 : World) (Y : Nat) (va vc : Value) (nA nC BA BC g c cap : Nat) (ad : Addr) (l0 : List UInt8) (w : World) (inv : Inv w0 Y w va vc nA nC BA BC)
    (hown : w.ownsRow BA 5 1 (.slice (some ⟨g, 0, none⟩) (l0.length + 8) c) (l0.length + 8) (bcells (l0 ++ behind))) (hb : IsBytes w (.slice (some ad) l0.length cap) l0) (hn : l0.length ≤ 140737488351232) (hnA : nA ≤ 4398046511104) :
    Calls Tryz.prog 110 #[.pointer (some ⟨Y, 0, none⟩), .slice (some ⟨g, 0, none⟩) l0.length c, .slice (some ad) l0.length cap] w fun e w' => e = .returned (.bool true) ∧ ∃ va', Inv w0 Y w' va' vc (nA + 1) nC w'.heap.size BC := by
  have qB := Tryz.nilB
  have HI := hide inv
  have hlen : (l0 ++ behind).length = l0.length + 8 := by rw [List.length_append]; rfl
  have hall : ∀ i, i < l0.length + 8 → w.cell? ⟨g, i, none⟩ = some (.int .u8 (((l0 ++ behind).getD i 0).toNat : Int)) := by
    obtain ⟨a', c', h1, _, _, h4⟩ := IsBytes.ofOwns (l := l0 ++ behind) (by rw [hlen]; exact hown)
    rcases h4 with h4 | ⟨b, o, h5, h6⟩
    · rw [h4] at hlen; simp at hlen
    · simp only [Value.slice.injEq] at h1
      rw [← h1.1] at h5
      simp only [Option.some.injEq, Addr.mk.injEq, and_true] at h5
      obtain ⟨rfl, rfl⟩ := h5
      intro i hi
      have := h6 i (by omega)
      simpa using this
  have hg8 : l0.length + 8 ≤ c ∧ c ≤ maxLen := by
    obtain ⟨a', c', h1, h2, h3, _⟩ := owns_slice hown
    simp only [Value.slice.injEq] at h1
    obtain ⟨_, _, rfl⟩ := h1
    exact ⟨h2, h3⟩
  obtain ⟨hc1, hc2⟩ := hg8
  obtain ⟨a', cap', h1, hb1, hb2, hb3⟩ := hb
  simp only [Value.slice.injEq] at h1
  obtain ⟨rfl, _, rfl⟩ := h1
  have HT : Hid (w.ownsRow BA 5 1 (.slice (some ⟨g, 0, none⟩) l0.length c) l0.length (bcells l0)) := by
    have := owns_take hown
    rwa [take_bcells] at this
  have HA := hide hall
  have HB := hide hb3
  have hleft : ∀ i, i < l0.length → (l0 ++ behind).getD i 0 = l0.getD i 0 := fun i hi => getD_left _ _ _ _ hi
  have hright : ∀ i, i < 8 → (((l0 ++ behind).getD (l0.length + i) 0).toNat : Int) = 171 + (i : Int) := fun i hi => by rw [getD_right]; exact behind_get i hi
  have HL := hide hleft
  have HN0 : Hid (l0 = [] → l0.length = 0) := fun h => by rw [h]; rfl
  have HR := hide hright
  clear hall hb3 inv hown hlen hleft hright
  unfold maxLen at hc2 hb2
  generalize hN : l0.length = N at *
  clear hN
  go_enter Tryz.func110, Tryz.ntmps110
  go_wp2_with fail
  go_loopw [8, 9] (fun s i wr => ∃ k : Nat, k ≤ N ∧ i = .int .i64 k ∧ s = .bool true ∧ Hid (Ext w wr)) (fun _ i _ => N - (intOf i).toNat)
  case atStart => exact ⟨0, Nat.zero_le _, rfl, rfl, Ext.refl _⟩
  case round =>
    obtain ⟨k, hk, rfl, rfl, HE⟩ := hrel
    by_cases hlt : k < N
    · obtain ⟨b, o, rfl, hcb⟩ : ∃ b o, ad = ⟨b, o, none⟩ ∧ ∀ i, i < N → w.cell? ⟨b, o + i, none⟩ = some (.int .u8 ((l0.getD i 0).toNat : Int)) := by
        rcases HB.out with h | ⟨b, o, h, h'⟩
        · have := HN0.out h; omega
        · injection h with h
          exact ⟨b, o, h, h'⟩
      have h1 := HE.out.cell (hcb k hlt)
      have h2 := HE.out.cell (HA.out k (by omega))
      rw [HL.out k hlt] at h2
      generalize l0.getD k 0 = x at h1 h2
      have hlt' : (k : Int) < (N : Int) := by omega
      clear hcb
      go_wp2_with fail
      go_quiet (fail)
      have hE2 : Hid (Ext w (wr.drewN nq)) := HE.out.trans (drewN_ext wr nq)
      go_wp2
      go_roundw
      case rel => exact ⟨k + 1, by omega, by go_num, by simp, hE2⟩
      case measure => simp [intOf]; omega
    · go_wp2_with fail
      go_loopw [8, 10] (fun s i wz => ∃ k : Nat, k ≤ 8 ∧ i = .int .i64 k ∧ s = .bool true ∧ Hid (Ext w wz)) (fun _ i _ => 8 - (intOf i).toNat)
      case atStart => exact ⟨0, Nat.zero_le _, rfl, rfl, HE⟩
      case round =>
        obtain ⟨q, hq, rfl, rfl, HE2⟩ := hrel
        by_cases hlt2 : q < 8
        · have h2 := HE2.out.cell (HA.out (N + q) (by omega))
          rw [HR.out q hlt2] at h2
          have hlt' : (q : Int) < 8 := by omega
          go_wp2
          go_roundw
          case rel => exact ⟨q + 1, by omega, by go_num, by simp, HE2⟩
          case measure => simp [intOf]; omega
        · have hInv := HI.out.next HE2.out
          have hown2 := owns_ext HT.out HE2.out
          have HI2 := hide hInv
          have HO2 := hide hown2
          clear hInv hown2
          go_wp2_with (go_at_call 145; refine (bBytes_any Y w0.heap.size BA nA N va vc _ (bcells l0) wr HI2.out.heapY HI2.out.pa HO2.out HI2.out.ba HI2.out.ba0 (by omega) (by omega)).mono ?_; rintro e w1 ⟨va', rfl, h1, h2, h3⟩)
          have HR2 := hide (HI2.out.bytes HO2.out h1 h2 h3)
          clear h1 h2 h3
          go_wp2
          go_ret
          exact ⟨rfl, va', HR2.out⟩
end Go.Proofs.YtoijpogadkogcaaGreat
