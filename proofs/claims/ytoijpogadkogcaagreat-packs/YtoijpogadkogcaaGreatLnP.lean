/-
  What is lent: headers, with eight behind.
-/
import Derived.Test.YtoijpogadkogcaaGreatLn
namespace Go.Proofs.YtoijpogadkogcaaGreat
open Go.RowKit
set_option maxRecDepth 100000

def behindP : List (List UInt8 × List UInt8) := [([98, 101, 104, 105, 110, 100], [48]), ([98, 101, 104, 105, 110, 100], [49]), ([98, 101, 104, 105, 110, 100], [50]), ([98, 101, 104, 105, 110, 100], [51]), ([98, 101, 104, 105, 110, 100], [52]), ([98, 101, 104, 105, 110, 100], [53]), ([98, 101, 104, 105, 110, 100], [54]), ([98, 101, 104, 105, 110, 100], [55])]
theorem behindP_at (k : Nat) (h : k < 8) : behindP.take (k + 1) = behindP.take k ++ [([98, 101, 104, 105, 110, 100], [UInt8.ofNat (48 + k)])] := by
  have : ∀ j : Fin 8, behindP.take (j.val + 1) = behindP.take j.val ++ [([98, 101, 104, 105, 110, 100], [UInt8.ofNat (48 + j.val)])] := by decide
  exact this ⟨k, h⟩
theorem pcells_any (l : List (List UInt8 × List UInt8)) (j : Nat) : (pcells l)[j]? = if j / 2 < l.length then (if j % 2 = 0 then some (.string ⟨(l.getD (j / 2) ([], [])).1.toArray⟩) else some (.string ⟨(l.getD (j / 2) ([], [])).2.toArray⟩)) else none := by
  induction l generalizing j with
  | nil => simp [pcells]
  | cons p r ih =>
    match j with
    | 0 => simp [pcells]
    | 1 => simp [pcells]
    | j + 2 =>
      have h1 : (j + 2) / 2 = j / 2 + 1 := by omega
      have h2 : (j + 2) % 2 = j % 2 := by omega
      simp only [pcells, List.getElem?_cons_succ, ih, h1, h2, List.length_cons, List.getD_cons_succ, Nat.add_lt_add_iff_right]
theorem src_isP {w : World} {a : Addr} {cap : Nat} {l : List (List UInt8 × List UInt8)} (h : IsPairs w (.slice (some a) l.length cap) l) : Src Tryz.prog 2 43 (.slice (some a) l.length cap) l.length (pcells l) w := by
  obtain ⟨a', cap', h1, _, _, h4⟩ := h
  simp only [Value.slice.injEq] at h1
  obtain ⟨rfl, _, rfl⟩ := h1
  refine Src.ofSlice w Tryz.underlying43 a l.length cap (pcells l) (by rw [pcells_length]) (fun j u hj => ?_) (fun u hu => by
    obtain ⟨j, hj⟩ := List.getElem?_of_mem hu
    rw [pcells_any] at hj
    split at hj
    · split at hj <;> (injection hj with hj; subst hj; rfl)
    · cases hj)
  rw [pcells_any] at hj
  split at hj
  · rename_i hlt
    rcases h4 with rfl | ⟨b, o, h5, h6⟩
    · simp at hlt
    · injection h5 with h5
      subst h5
      rw [Addr.add_lit]
      obtain ⟨c1, c2⟩ := h6 (j / 2) hlt
      split at hj
      · rename_i h0
        rw [show o + j = o + j / 2 * 2 by omega, c1]
        exact hj
      · rename_i h0
        rw [show o + j = o + j / 2 * 2 + 1 by omega, c2]
        exact hj
  · cases hj

theorem lentPairs_nil (n cap : Nat) (w : World) : Calls Tryz.prog 101 #[.slice none n cap] w fun e w' => e = .returned (.slice none 0 0) ∧ w' = w := by
  have qB := Tryz.nilP
  go_enter Tryz.func101, Tryz.ntmps101
  go_wp2
  go_ret
  exact ⟨rfl, rfl⟩

set_option maxHeartbeats 3200000 in
theorem lentPairs_some (ad : Addr) (cap : Nat) (l0 : List (List UInt8 × List UInt8)) (w : World) (hb : IsPairs w (.slice (some ad) l0.length cap) l0) (hn : l0.length ≤ 4398046510976) :
    Calls Tryz.prog 101 #[.slice (some ad) l0.length cap] w fun e w' => ∃ g c, e = .returned (.slice (some ⟨g, 0, none⟩) l0.length c) ∧ w'.ownsRow w.heap.size 122 2 (.slice (some ⟨g, 0, none⟩) (l0.length + 8) c) (l0.length + 8) (pcells (l0 ++ behindP)) ∧ Ext w w' := by
  obtain ⟨i0, hi, hz0, hz1, hz2⟩ := info_parts Tryz.infoPair
  have HSRC := hide (src_isP hb)
  clear hb
  have qB := Tryz.nilP
  generalize hN : l0.length = N at hn HSRC ⊢
  have HN := hide hN
  clear hN
  go_enter Tryz.func101, Tryz.ntmps101
  go_wp2_with (at_builtin; refine wpList_append_src _ rfl (.tmp 7) (.tmp 8) 43 43 rfl w.heap.size 122 i0 _ 2 32 Tryz.underlying43 hi hz0 hz1 hz2 rfl (by decide) _ 0 [] rfl (World.ownsRow_nil _ _ _ _) _ N (pcells l0) rfl HSRC.out ?_ ?_ ?_ ?_)
  · unfold maxLen; omega
  · omega
  · exact Nat.le_refl _
  · intro v1 w1 hown1 hg1
    have hE1 : Ext w w1 := (Ext.refl w).trans' hg1 (World.ownsRow_nil _ _ 122 2)
    have HO1 := hide hown1
    have HE1 := hide hE1
    clear hown1 hg1 hE1
    go_wp2_with fail
    go_loopw [3, 4] (fun v i wr => ∃ k : Nat, k ≤ 8 ∧ i = .int .i64 k ∧ Hid (wr.ownsRow w.heap.size 122 2 v (N + k) (pcells (l0 ++ behindP.take k))) ∧ Hid (Ext w wr)) (fun _ i _ => 8 - (intOf i).toNat)
    case atStart => exact ⟨0, by omega, rfl, by show w1.ownsRow _ _ _ _ _ _; simpa using HO1.out, HE1⟩
    case round =>
      obtain ⟨k, hk, rfl, HO, HE⟩ := hrel
      by_cases hlt : k < 8
      · have hlt' : (k : Int) < 8 := by omega
        have hbase : w.heap.size ≤ wr.heap.size := HE.out.size
        have hku : pcells [([98, 101, 104, 105, 110, 100], [UInt8.ofNat (48 + k)])] = [.string ⟨#[98, 101, 104, 105, 110, 100]⟩, .string ((⟨#[48, 49, 50, 51, 52, 53, 54, 55, 56, 57]⟩ : ByteArray).extract k (k + 1))] := by
          have h1 : (⟨#[48, 49, 50, 51, 52, 53, 54, 55, 56, 57]⟩ : ByteArray).extract k (k + 1) = ⟨[UInt8.ofNat (48 + k)].toArray⟩ := ba_ext (digit_at k (by omega))
          rw [h1]
          rfl
        have HKU := hide hku
        clear hku
        go_wp2_with (at_builtin; refine wpList_append_src _ rfl (.tmp 14) (.tmp 20) 43 43 rfl w.heap.size 122 i0 _ 2 32 Tryz.underlying43 hi hz0 hz1 hz2 rfl (by decide) _ _ _ rfl (HO.out.alloc _) _ 1 [.string ⟨#[98, 101, 104, 105, 110, 100]⟩, .string ((⟨#[48, 49, 50, 51, 52, 53, 54, 55, 56, 57]⟩ : ByteArray).extract k (k + 1))] rfl (src_pair _ _ Tryz.underlying43 _ _) ?_ ?_ ?_ ?_)
        · unfold maxLen; omega
        · omega
        · simp; omega
        · intro v2 w2 hown2 hg2
          have HO2 : Hid (w2.ownsRow w.heap.size 122 2 v2 (N + (k + 1)) (pcells (l0 ++ behindP.take (k + 1)))) := by
            show w2.ownsRow _ _ _ _ _ _
            rw [behindP_at k hlt, ← List.append_assoc, pcells_append (l0 ++ behindP.take k), HKU.out]
            exact hown2
          have HE2 : Hid (Ext w w2) := (HE.out.alloc _).trans' hg2 (HO.out.alloc _)
          clear hown2 hg2
          go_wp2
          go_roundw
          case rel => exact ⟨k + 1, by omega, by go_num, HO2, HE2⟩
          case measure => simp [intOf]; omega
      · obtain rfl : k = 8 := by omega
        obtain ⟨a3, c3, rfl, hc1, hc2, h3⟩ := owns_slice HO.out
        obtain ⟨g, rfl⟩ : ∃ g, a3 = some ⟨g, 0, none⟩ := by
          rcases h3 with h | ⟨g, h, _⟩
          · omega
          · exact ⟨g, h⟩
        clear h3
        unfold maxLen at hc2
        have hNc : N ≤ c3 := by omega
        have HO3 : Hid (wr.ownsRow w.heap.size 122 2 (.slice (some ⟨g, 0, none⟩) (N + 8) c3) (N + 8) (pcells (l0 ++ behindP))) := HO.out
        go_wp2
        go_ret
        exact ⟨g, c3, rfl, HO3.out, HE.out⟩
end Go.Proofs.YtoijpogadkogcaaGreat
