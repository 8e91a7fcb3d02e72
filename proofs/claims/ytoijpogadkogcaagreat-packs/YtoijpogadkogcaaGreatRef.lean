/-
  The document's own answer: a number, a text, a header, headers packed.
-/
import Derived.Test.YtoijpogadkogcaaGreatFront
namespace Go.Proofs.YtoijpogadkogcaaGreat
open Go.RowKit
set_option maxRecDepth 100000

set_option maxHeartbeats 400000 in
theorem rPower_any (n : Nat) (w : World) (hn : n ≤ 20) : Calls Tryz.prog 178 #[.int .i64 (n : Int)] w fun e w' => e = .returned (.int .i64 ((2 ^ n : Nat) : Int)) ∧ w' = w := by
  go_enter Tryz.func178, Tryz.ntmps178
  go_wp2
  go_loop [3, 4] (fun p i => ∃ k q : Nat, k ≤ n ∧ i = .int .i64 k ∧ p = .int .i64 q ∧ Hid (q = 2 ^ k) ∧ q ≤ 1048576) (fun _ i => n - (intOf i).toNat)
  case atStart => exact ⟨0, 1, Nat.zero_le _, rfl, rfl, rfl, by omega⟩
  case round =>
    obtain ⟨k, q, hk, rfl, rfl, HQ, hq⟩ := hrel
    by_cases hlt : k < n
    · have h2 : 2 * q = 2 ^ (k + 1) := by rw [HQ.out, Nat.pow_succ]; omega
      have h3 : 2 ^ (k + 1) ≤ 2 ^ 20 := Nat.pow_le_pow_right (by omega) (by omega)
      have HQ2 : Hid (2 * q = 2 ^ (k + 1)) := h2
      have hq2 : 2 * q ≤ 1048576 := by rw [h2]; exact h3
      clear h2 h3
      go_wp2
      go_round
      case rel => exact ⟨k + 1, 2 * q, by omega, by go_num, by go_num, HQ2, hq2⟩
      case measure => simp [intOf]; omega
    · have hkn : k = n := by omega
      have HF : Hid ((q : Int) = ((2 ^ n : Nat) : Int)) := by show (q : Int) = _; rw [HQ.out, hkn]
      clear hkn
      go_wp2
      go_ret
      exact ⟨ret_int HF.out, rfl⟩
theorem rPower3 (w : World) : Calls Tryz.prog 178 #[.int .i64 3] w fun e w' => e = .returned (.int .i64 8) ∧ w' = w := rPower_any 3 w (by omega)
theorem rPower5 (w : World) : Calls Tryz.prog 178 #[.int .i64 5] w fun e w' => e = .returned (.int .i64 32) ∧ w' = w := rPower_any 5 w (by omega)

theorem owns_one (w : World) (u : UInt8) : (w.alloc (.cells #[.int .u8 (u.toNat : Int)] 5)).ownsRow w.heap.size 5 1 (.slice (some ⟨w.heap.size, 0, none⟩) 1 1) 1 (bcells [u]) :=
  ⟨rfl, .inr ⟨w.heap.size, 1, _, rfl, Nat.le_refl _, heap_alloc_new w _, by omega, by decide, rfl, rfl⟩⟩
theorem owns_int (w : World) (n : Nat) (x : Int) (h : n < 256) (hx : (n : Int) = x) : (w.alloc (.cells #[.int .u8 x] 5)).ownsRow w.heap.size 5 1 (.slice (some ⟨w.heap.size, 0, none⟩) 1 1) 1 (bcells [UInt8.ofNat n]) := by
  have := owns_one w (UInt8.ofNat n)
  rw [enc_byte n h, hx] at this
  exact this

set_option maxHeartbeats 1600000 in
theorem rNumber_128 (n : Nat) (w : World) (hm : n ≤ 100) : Calls Tryz.prog 144 #[.int .i64 (n : Int), .int .i64 3, .int .i64 128] w fun e w' => ∃ v, e = .returned v ∧ w'.ownsRow w.heap.size 5 1 v (encN 128 7 n).length (bcells (encN 128 7 n)) ∧ Ext w w' := by
  obtain ⟨i0, hi, hz0, hz1, hz2⟩ := info_parts Tryz.info5
  by_cases hn : n < 7
  · have HE : Hid (encN 128 7 n = [UInt8.ofNat (128 + n)]) := by show encN 128 7 n = _; unfold encN; rw [if_pos hn]
    rw [HE.out]
    go_enter Tryz.func144, Tryz.ntmps144
    go_wp2_with (go_at_call 178; refine (rPower3 _).mono ?_; rintro e w' ⟨rfl, hw⟩; replace hw := hw.symm; subst hw)
    go_ret
    exact ⟨_, rfl, owns_int w (128 + n) _ (by omega) (by omega), (Ext.refl _).alloc _⟩
  · have HE : Hid (encN 128 7 n = [UInt8.ofNat (128 + 7), UInt8.ofNat (n - 7)]) := by show encN 128 7 n = _; unfold encN; rw [if_neg hn]
    rw [HE.out]
    go_enter Tryz.func144, Tryz.ntmps144
    go_wp2_with (go_at_call 178; refine (rPower3 _).mono ?_; rintro e w' ⟨rfl, hw⟩; replace hw := hw.symm; subst hw)
    refine wp_loop_rounds 1 ?_
    rw [rounds_succ]
    have hown := owns_int w (128 + 7) 135 (by omega) rfl
    have hown := hown.alloc (.cells #[.int .u8 ((n : Int) - 7)] 5)
    have hsrc : Src Tryz.prog 1 34 (.slice (some ⟨w.heap.size + 1, 0, none⟩) 1 1) 1 [.int .u8 ((n : Int) - 7)] ((w.alloc (.cells #[.int .u8 135] 5)).alloc (.cells #[.int .u8 ((n : Int) - 7)] 5)) := by
      have := src_one (P := Tryz.prog) (w.alloc (.cells #[.int .u8 135] 5)) 5 Tryz.underlying34 (.int .u8 ((n : Int) - 7)) rfl
      rwa [show (w.alloc (.cells #[.int .u8 135] 5)).heap.size = w.heap.size + 1 by simp] at this
    go_wp2_with (at_builtin; refine wpList_append_src _ rfl (.tmp 39) (.tmp 42) 34 34 rfl w.heap.size 5 i0 (.int .u8 0) 1 1 Tryz.underlying34 hi hz0 hz1 hz2 rfl (by decide) _ _ _ rfl hown _ 1 [.int .u8 ((n : Int) - 7)] rfl hsrc ?_ ?_ ?_ ?_)
    · unfold maxLen; omega
    · omega
    · simp; omega
    · intro v2 w2 hown2 hgrew2
      have hE2 : Ext w w2 := Ext.trans' (((Ext.refl _).alloc _).alloc _) hgrew2 hown
      have hown3 : w2.ownsRow w.heap.size 5 1 v2 [UInt8.ofNat (128 + 7), UInt8.ofNat (n - 7)].length (bcells [UInt8.ofNat (128 + 7), UInt8.ofNat (n - 7)]) := owns_len hown2 rfl (by
        show [Value.int .u8 _, Value.int .u8 _] = [Value.int .u8 _, Value.int .u8 _]
        rw [enc_byte (n - 7) (by omega), Int.ofNat_sub (by omega)]
        rfl)
      clear hown2 hgrew2 hown hsrc
      go_wp2
      go_ret
      exact ⟨v2, rfl, hown3, hE2⟩

set_option maxHeartbeats 1600000 in
theorem rNumber_64 (n : Nat) (w : World) (hm : n ≤ 100) : Calls Tryz.prog 144 #[.int .i64 (n : Int), .int .i64 3, .int .i64 64] w fun e w' => ∃ v, e = .returned v ∧ w'.ownsRow w.heap.size 5 1 v (encN 64 7 n).length (bcells (encN 64 7 n)) ∧ Ext w w' := by
  obtain ⟨i0, hi, hz0, hz1, hz2⟩ := info_parts Tryz.info5
  by_cases hn : n < 7
  · have HE : Hid (encN 64 7 n = [UInt8.ofNat (64 + n)]) := by show encN 64 7 n = _; unfold encN; rw [if_pos hn]
    rw [HE.out]
    go_enter Tryz.func144, Tryz.ntmps144
    go_wp2_with (go_at_call 178; refine (rPower3 _).mono ?_; rintro e w' ⟨rfl, hw⟩; replace hw := hw.symm; subst hw)
    go_ret
    exact ⟨_, rfl, owns_int w (64 + n) _ (by omega) (by omega), (Ext.refl _).alloc _⟩
  · have HE : Hid (encN 64 7 n = [UInt8.ofNat (64 + 7), UInt8.ofNat (n - 7)]) := by show encN 64 7 n = _; unfold encN; rw [if_neg hn]
    rw [HE.out]
    go_enter Tryz.func144, Tryz.ntmps144
    go_wp2_with (go_at_call 178; refine (rPower3 _).mono ?_; rintro e w' ⟨rfl, hw⟩; replace hw := hw.symm; subst hw)
    refine wp_loop_rounds 1 ?_
    rw [rounds_succ]
    have hown := owns_int w (64 + 7) 71 (by omega) rfl
    have hown := hown.alloc (.cells #[.int .u8 ((n : Int) - 7)] 5)
    have hsrc : Src Tryz.prog 1 34 (.slice (some ⟨w.heap.size + 1, 0, none⟩) 1 1) 1 [.int .u8 ((n : Int) - 7)] ((w.alloc (.cells #[.int .u8 71] 5)).alloc (.cells #[.int .u8 ((n : Int) - 7)] 5)) := by
      have := src_one (P := Tryz.prog) (w.alloc (.cells #[.int .u8 71] 5)) 5 Tryz.underlying34 (.int .u8 ((n : Int) - 7)) rfl
      rwa [show (w.alloc (.cells #[.int .u8 71] 5)).heap.size = w.heap.size + 1 by simp] at this
    go_wp2_with (at_builtin; refine wpList_append_src _ rfl (.tmp 39) (.tmp 42) 34 34 rfl w.heap.size 5 i0 (.int .u8 0) 1 1 Tryz.underlying34 hi hz0 hz1 hz2 rfl (by decide) _ _ _ rfl hown _ 1 [.int .u8 ((n : Int) - 7)] rfl hsrc ?_ ?_ ?_ ?_)
    · unfold maxLen; omega
    · omega
    · simp; omega
    · intro v2 w2 hown2 hgrew2
      have hE2 : Ext w w2 := Ext.trans' (((Ext.refl _).alloc _).alloc _) hgrew2 hown
      have hown3 : w2.ownsRow w.heap.size 5 1 v2 [UInt8.ofNat (64 + 7), UInt8.ofNat (n - 7)].length (bcells [UInt8.ofNat (64 + 7), UInt8.ofNat (n - 7)]) := owns_len hown2 rfl (by
        show [Value.int .u8 _, Value.int .u8 _] = [Value.int .u8 _, Value.int .u8 _]
        rw [enc_byte (n - 7) (by omega), Int.ofNat_sub (by omega)]
        rfl)
      clear hown2 hgrew2 hown hsrc
      go_wp2
      go_ret
      exact ⟨v2, rfl, hown3, hE2⟩

set_option maxHeartbeats 1600000 in
theorem rNumber_0 (n : Nat) (w : World) (hm : n ≤ 100) : Calls Tryz.prog 144 #[.int .i64 (n : Int), .int .i64 5, .int .i64 0] w fun e w' => ∃ v, e = .returned v ∧ w'.ownsRow w.heap.size 5 1 v (encN 0 31 n).length (bcells (encN 0 31 n)) ∧ Ext w w' := by
  obtain ⟨i0, hi, hz0, hz1, hz2⟩ := info_parts Tryz.info5
  by_cases hn : n < 31
  · have HE : Hid (encN 0 31 n = [UInt8.ofNat (0 + n)]) := by show encN 0 31 n = _; unfold encN; rw [if_pos hn]
    rw [HE.out]
    go_enter Tryz.func144, Tryz.ntmps144
    go_wp2_with (go_at_call 178; refine (rPower5 _).mono ?_; rintro e w' ⟨rfl, hw⟩; replace hw := hw.symm; subst hw)
    go_ret
    exact ⟨_, rfl, owns_int w (0 + n) _ (by omega) (by omega), (Ext.refl _).alloc _⟩
  · have HE : Hid (encN 0 31 n = [UInt8.ofNat (0 + 31), UInt8.ofNat (n - 31)]) := by show encN 0 31 n = _; unfold encN; rw [if_neg hn]
    rw [HE.out]
    go_enter Tryz.func144, Tryz.ntmps144
    go_wp2_with (go_at_call 178; refine (rPower5 _).mono ?_; rintro e w' ⟨rfl, hw⟩; replace hw := hw.symm; subst hw)
    refine wp_loop_rounds 1 ?_
    rw [rounds_succ]
    have hown := owns_int w (0 + 31) 31 (by omega) rfl
    have hown := hown.alloc (.cells #[.int .u8 ((n : Int) - 31)] 5)
    have hsrc : Src Tryz.prog 1 34 (.slice (some ⟨w.heap.size + 1, 0, none⟩) 1 1) 1 [.int .u8 ((n : Int) - 31)] ((w.alloc (.cells #[.int .u8 31] 5)).alloc (.cells #[.int .u8 ((n : Int) - 31)] 5)) := by
      have := src_one (P := Tryz.prog) (w.alloc (.cells #[.int .u8 31] 5)) 5 Tryz.underlying34 (.int .u8 ((n : Int) - 31)) rfl
      rwa [show (w.alloc (.cells #[.int .u8 31] 5)).heap.size = w.heap.size + 1 by simp] at this
    go_wp2_with (at_builtin; refine wpList_append_src _ rfl (.tmp 39) (.tmp 42) 34 34 rfl w.heap.size 5 i0 (.int .u8 0) 1 1 Tryz.underlying34 hi hz0 hz1 hz2 rfl (by decide) _ _ _ rfl hown _ 1 [.int .u8 ((n : Int) - 31)] rfl hsrc ?_ ?_ ?_ ?_)
    · unfold maxLen; omega
    · omega
    · simp; omega
    · intro v2 w2 hown2 hgrew2
      have hE2 : Ext w w2 := Ext.trans' (((Ext.refl _).alloc _).alloc _) hgrew2 hown
      have hown3 : w2.ownsRow w.heap.size 5 1 v2 [UInt8.ofNat (0 + 31), UInt8.ofNat (n - 31)].length (bcells [UInt8.ofNat (0 + 31), UInt8.ofNat (n - 31)]) := owns_len hown2 rfl (by
        show [Value.int .u8 _, Value.int .u8 _] = [Value.int .u8 _, Value.int .u8 _]
        rw [enc_byte (n - 31) (by omega), Int.ofNat_sub (by omega)]
        rfl)
      clear hown2 hgrew2 hown hsrc
      go_wp2
      go_ret
      exact ⟨v2, rfl, hown3, hE2⟩

end Go.Proofs.YtoijpogadkogcaaGreat
