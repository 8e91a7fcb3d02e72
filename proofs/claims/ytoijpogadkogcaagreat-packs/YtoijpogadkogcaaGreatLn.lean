/-
  What is lent: the same, with eight behind.
-/
import Derived.Test.YtoijpogadkogcaaGreatBkH
import Derived.WalkSpells
namespace Go.Proofs.YtoijpogadkogcaaGreat
open Go.RowKit
set_option maxRecDepth 100000

def behind : List UInt8 := [171, 172, 173, 174, 175, 176, 177, 178]
theorem behind_at (k : Nat) (h : k < 8) : behind.take (k + 1) = behind.take k ++ [UInt8.ofNat (171 + k)] := by
  have : ∀ j : Fin 8, behind.take (j.val + 1) = behind.take j.val ++ [UInt8.ofNat (171 + j.val)] := by decide
  exact this ⟨k, h⟩
theorem src_is {w : World} {a : Addr} {cap : Nat} {l : List UInt8} (h : IsBytes w (.slice (some a) l.length cap) l) : Src Tryz.prog 1 34 (.slice (some a) l.length cap) l.length (bcells l) w := by
  obtain ⟨a', cap', h1, _, _, h4⟩ := h
  simp only [Value.slice.injEq] at h1
  obtain ⟨rfl, _, rfl⟩ := h1
  refine Src.ofSlice w Tryz.underlying34 a l.length cap (bcells l) (by rw [bcells_length, Nat.mul_one]) (fun j u hj => ?_) (fun u hu => by
    simp only [bcells, List.mem_map] at hu
    obtain ⟨b, _, rfl⟩ := hu
    rfl)
  rcases h4 with rfl | ⟨b, o, h5, h6⟩
  · simp [bcells] at hj
  · injection h5 with h5
    subst h5
    have hjl : j < l.length := by
      rcases Nat.lt_or_ge j (bcells l).length with h | h
      · rwa [bcells_length] at h
      · rw [List.getElem?_eq_none h] at hj; cases hj
    rw [Addr.add_lit, h6 j hjl]
    simp only [bcells, List.getElem?_map] at hj
    rw [List.getElem?_eq_getElem hjl] at hj
    simp only [Option.map_some, Option.some.injEq] at hj
    rw [← hj, List.getD_eq_getElem?_getD, List.getElem?_eq_getElem hjl]
    rfl

theorem Tryz.nilB : ∀ (w : World) (a : Option Addr) (n c : Nat), (binOp .eql 34 (.slice a n c) (.slice none 0 0)).run Tryz.prog w = .ok (.bool a.isNone) w := fun w a n c => Lib.run_eql_slice_nil w _ _ a n c 0 0 Tryz.underlying34
theorem Tryz.nilP : ∀ (w : World) (a : Option Addr) (n c : Nat), (binOp .eql 43 (.slice a n c) (.slice none 0 0)).run Tryz.prog w = .ok (.bool a.isNone) w := fun w a n c => Lib.run_eql_slice_nil w _ _ a n c 0 0 Tryz.underlying43

theorem lent_nil (n cap : Nat) (w : World) : Calls Tryz.prog 106 #[.slice none n cap] w fun e w' => e = .returned (.slice none 0 0) ∧ w' = w := by
  have qB := Tryz.nilB
  go_enter Tryz.func106, Tryz.ntmps106
  go_wp2
  go_ret
  exact ⟨rfl, rfl⟩

set_option maxHeartbeats 3200000 in
theorem lent_some (ad : Addr) (cap : Nat) (l0 : List UInt8) (w : World) (hb : IsBytes w (.slice (some ad) l0.length cap) l0) (hn : l0.length ≤ 140737488351232) :
    Calls Tryz.prog 106 #[.slice (some ad) l0.length cap] w fun e w' => ∃ g c, e = .returned (.slice (some ⟨g, 0, none⟩) l0.length c) ∧ w'.ownsRow w.heap.size 5 1 (.slice (some ⟨g, 0, none⟩) (l0.length + 8) c) (l0.length + 8) (bcells (l0 ++ behind)) ∧ Ext w w' := by
  obtain ⟨i0, hi, hz0, hz1, hz2⟩ := info_parts Tryz.info5
  have HSRC := hide (src_is hb)
  clear hb
  have qB := Tryz.nilB
  generalize hN : l0.length = N at hn HSRC ⊢
  have HN := hide hN
  clear hN
  go_enter Tryz.func106, Tryz.ntmps106
  go_wp2_with (at_builtin; refine wpList_append_src _ rfl (.tmp 7) (.tmp 8) 34 34 rfl w.heap.size 5 i0 (.int .u8 0) 1 1 Tryz.underlying34 hi hz0 hz1 hz2 rfl (by decide) _ 0 [] rfl (World.ownsRow_nil _ _ _ _) _ N (bcells l0) rfl HSRC.out ?_ ?_ ?_ ?_)
  · unfold maxLen; omega
  · omega
  · exact Nat.le_refl _
  · intro v1 w1 hown1 hg1
    have hE1 : Ext w w1 := (Ext.refl w).trans' hg1 (World.ownsRow_nil _ _ 5 1)
    have HO1 := hide hown1
    have HE1 := hide hE1
    clear hown1 hg1 hE1
    go_wp2_with fail
    go_loopw [3, 4] (fun v i wr => ∃ k : Nat, k ≤ 8 ∧ i = .int .i64 k ∧ Hid (wr.ownsRow w.heap.size 5 1 v (N + k) (bcells (l0 ++ behind.take k))) ∧ Hid (Ext w wr)) (fun _ i _ => 8 - (intOf i).toNat)
    case atStart => exact ⟨0, by omega, rfl, by show w1.ownsRow _ _ _ _ _ _; simpa using HO1.out, HE1⟩
    case round =>
      obtain ⟨k, hk, rfl, HO, HE⟩ := hrel
      by_cases hlt : k < 8
      · have hlt' : (k : Int) < 8 := by omega
        have hbase : w.heap.size ≤ wr.heap.size := HE.out.size
        have hku : bcells [UInt8.ofNat (171 + k)] = [.int .u8 (171 + (k : Int))] := by
          show [Value.int .u8 (((UInt8.ofNat (171 + k)).toNat : Nat) : Int)] = _
          rw [enc_byte (171 + k) (by omega)]
          simp
        have HKU := hide hku
        clear hku
        go_wp2_with (at_builtin; refine wpList_append_src _ rfl (.tmp 14) (.tmp 18) 34 34 rfl w.heap.size 5 i0 (.int .u8 0) 1 1 Tryz.underlying34 hi hz0 hz1 hz2 rfl (by decide) _ _ _ rfl (HO.out.alloc _) _ 1 [.int .u8 (171 + (k : Int))] rfl (src_one _ _ Tryz.underlying34 _ rfl) ?_ ?_ ?_ ?_)
        · unfold maxLen; omega
        · omega
        · simp; omega
        · intro v2 w2 hown2 hg2
          have HO2 : Hid (w2.ownsRow w.heap.size 5 1 v2 (N + (k + 1)) (bcells (l0 ++ behind.take (k + 1)))) := by
            show w2.ownsRow _ _ _ _ _ _
            rw [behind_at k hlt, ← List.append_assoc, bcells_append (l0 ++ behind.take k), HKU.out]
            exact hown2
          have HE2 : Hid (Ext w w2) := (HE.out.alloc _).trans' hg2 (HO.out.alloc _)
          clear hown2 hg2
          go_wp2
          go_roundw
          case rel => exact ⟨k + 1, by omega, by go_num, HO2, HE2⟩
          case measure => simp [intOf]; omega
      · obtain rfl : k = 8 := by omega
        obtain ⟨a3, c3, rfl, hc1, hc2, h3⟩ := owns_slice HO.out
        obtain ⟨g, rfl⟩ : ∃ g, a3 = some ⟨g, 0, none⟩ := by
          rcases h3 with h | ⟨g, h, _⟩
          · omega
          · exact ⟨g, h⟩
        clear h3
        unfold maxLen at hc2
        have hNc : N ≤ c3 := by omega
        have HO3 : Hid (wr.ownsRow w.heap.size 5 1 (.slice (some ⟨g, 0, none⟩) (N + 8) c3) (N + 8) (bcells (l0 ++ behind))) := HO.out
        go_wp2
        go_ret
        exact ⟨g, c3, rfl, HO3.out, HE.out⟩
end Go.Proofs.YtoijpogadkogcaaGreat
