/-
  What is taken from the front of bytes: a number, a text.
-/
import Derived.Test.YtoijpogadkogcaaEntry
import Derived.Deep.QuietTactic
import Derived.BigQuiet
namespace Go.Proofs.Ytoijpogadkogcaa
open Go.RowKit
set_option maxRecDepth 100000

theorem drewN_ext (w : World) (n : Nat) : Ext w (w.drewN n) := ⟨rfl, rfl, rfl, Nat.le_refl _, fun _ _ => rfl⟩
theorem elem_bytes : Try.prog.elem 22 = 5 := by kernel_rfl
theorem size_bytes (W : World) : (sizeOf 5).run Try.prog W = .ok 1 W := by kernel_rfl
/-- What a cut from a place on comes to. -/
theorem cut_from {a : Option Addr} {n cap : Nat} {l : List UInt8} {w : World} (h : IsBytes w (.slice a n cap) l) (k : Nat) (hk : k ≤ l.length) :
    ∃ A, (∀ W : World, (Instr.slice 22 (.slice a n cap) (some (.int .i64 (k : Int))) none none).run Try.prog W = .ok (.slice A (n - k) (cap - k)) W) ∧ IsBytes w (.slice A (n - k) (cap - k)) (l.drop k) := by
  have hn : n = l.length := by
    obtain ⟨a', cap', he, _⟩ := h
    simp only [Value.slice.injEq] at he
    exact he.2.1
  refine ⟨_, fun W => ?_, IsBytes.drop h k hk⟩
  rw [run_slice_l W 22 a n cap (by rw [elem_bytes]; exact Try.underlying22) .i64 (k : Int) (by omega) (by omega), elem_bytes, size_bytes]
  simp [sliced, Result.andThen]

theorem ret_cut {a b : Int} {v : Value} {t : Bool} (h : a = b) : Ending.returned (.tuple #[.int .i64 a, v, .bool t]) = .returned (.tuple #[.int .i64 b, v, .bool t]) := by rw [h]
theorem and_127 (c : UInt8) : bits BinOp.and IntKind.u8 (c.toNat : Int) 127 = ((c.toNat % 128 : Nat) : Int) := by
  have : ∀ k : Fin 256, bits BinOp.and IntKind.u8 ((k.val : Nat) : Int) 127 = ((k.val % 128 : Nat) : Int) := by decide +kernel
  exact this ⟨c.toNat, c.toNat_lt⟩

theorem and_7 (c : UInt8) : bits BinOp.and IntKind.i64 (c.toNat : Int) 7 = ((c.toNat % 8 : Nat) : Int) := by
  have : ∀ k : Fin 256, bits BinOp.and IntKind.i64 ((k.val : Nat) : Int) 7 = ((k.val % 8 : Nat) : Int) := by decide +kernel
  exact this ⟨c.toNat, c.toNat_lt⟩

set_option maxHeartbeats 800000 in
theorem cutNumber3_nil (v : Value) (w : World) (h : IsBytes w v []) :
    Calls Try.prog 104 #[v, .int .i64 3] w fun e w' => e = .returned (.tuple #[.int .i64 0, .slice none 0 0, .bool false]) ∧ w' = w := by
  obtain ⟨a, cap, rfl, hc1, hc2, hcell⟩ := h
  go_enter Try.func104, Try.ntmps104
  go_wp2
  go_ret3
  exact ⟨rfl, rfl⟩

set_option maxHeartbeats 3200000 in
set_option maxRecDepth 100000 in
theorem cutNumber3_cons (v : Value) (c : UInt8) (r : List UInt8) (w0 w : World) (h0 : Ext w0 w) (hb : IsBytes w0 v (c :: r)) (hl : r.length ≤ 100000) :
    Calls Try.prog 104 #[v, .int .i64 3] w fun e w' => Ext w w' ∧ ((∃ n rest v', decN 7 (c :: r) = some (n, rest) ∧ e = .returned (.tuple #[.int .i64 (n : Int), v', .bool true]) ∧ IsBytes w0 v' rest) ∨ (decN 7 (c :: r) = none ∧ e = .returned (.tuple #[.int .i64 0, .slice none 0 0, .bool false]))) := by
  obtain ⟨a, cap, rfl, hc1, hc2, hcell⟩ := hb.ext h0
  obtain ⟨b, o, rfl, hcc⟩ : ∃ b o, a = some ⟨b, o, none⟩ ∧ ∀ i, i < (c :: r).length → w.cell? ⟨b, o + i, none⟩ = some (.int .u8 (((c :: r).getD i 0).toNat : Int)) := by
    rcases hcell with h | h
    · cases h
    · exact h
  have hc0 : w.cell? ⟨b, o, none⟩ = some (.int .u8 (c.toNat : Int)) := hcc 0 (by simp)
  clear hcell hcc
  rw [List.length_cons] at hc1 hb ⊢
  have hcb : c.toNat < 256 := c.toNat_lt
  have hne : (((r.length : Nat) : Int) + 1 == 0) = false := by simp; omega
  have ha := and_7 c
  obtain ⟨q, hq⟩ : ∃ q, q = c.toNat % 8 := ⟨_, rfl⟩
  rw [← hq] at ha
  have hql : q ≤ 7 := by omega
  obtain ⟨A, hsl, hA⟩ := cut_from hb 1 (by simp)
  rw [show r.length + 1 - 1 = r.length by omega, show (c :: r).drop 1 = r from rfl] at hA
  rw [show r.length + 1 - 1 = r.length by omega, show ((1 : Nat) : Int) = 1 from rfl] at hsl
  by_cases hlow : q < 7
  · have HD : Hid (decN 7 (c :: r) = some (q, r)) := by
      show decN 7 (c :: r) = _
      simp only [decN]
      rw [← hq, if_pos hlow]
    clear hq
    go_enter Try.func104, Try.ntmps104
    go_wp2_with fail
    go_quiet ((go_at_call 103; exact Calls.quiet_of_same (full3 _)))
    go_wp2_with (go_at_call 103; refine (full3 _).mono ?_; rintro e w' ⟨rfl, hw⟩; subst hw)
    go_quiet (fail)
    go_wp2
    go_ret3
    exact ⟨(drewN_ext _ _).trans (drewN_ext _ _), .inl ⟨q, r, _, HD.out, rfl, hA⟩⟩
  · have hq7 : q = 7 := by omega
    subst hq7
    have HDx : True := trivial
    have HD : Hid (decN 7 (c :: r) = decTail 3 7 0 r) := by
      show decN 7 (c :: r) = _
      simp only [decN]
      rw [← hq, if_neg (by omega)]
    clear hq hlow hql
    go_enter Try.func104, Try.ntmps104
    go_wp2_with fail
    go_quiet ((go_at_call 103; exact Calls.quiet_of_same (full3 _)))
    go_wp2_with (go_at_call 103; refine (full3 _).mono ?_; rintro e w' ⟨rfl, hw⟩; subst hw)
    have hE1 := drewN_ext w nq
    have hA1 := hA.ext (h0.trans hE1)
    clear hsl hc0 hb ha hne HDx
    generalize w.drewN nq = W1 at hA1 hE1 ⊢
    go_loop [4, 8] (fun n i => ∃ k acc : Nat, k ≤ 3 ∧ k ≤ r.length ∧ i = .int .i64 k ∧ n = .int .i64 acc ∧ acc ≤ 31 + k * 3000000 ∧ Hid (decN 7 (c :: r) = decTail (3 - k) acc k (r.drop k))) (fun _ i => 3 - (intOf i).toNat)
    case atStart => exact ⟨0, 7, by omega, by omega, rfl, rfl, by omega, HD⟩
    case round =>
      obtain ⟨k, acc, hk3, hkr, rfl, rfl, hacc, HD⟩ := hrel
      by_cases hlt : k < r.length
      · by_cases h3 : k < 3
        · obtain ⟨a', cap', he, hd1, hd2, hd3⟩ := id hA1
          simp only [Value.slice.injEq, true_and] at he
          obtain ⟨rfl, rfl⟩ := he
          obtain ⟨b1, o1, rfl, hcc⟩ : ∃ b o, A = some ⟨b, o, none⟩ ∧ ∀ i, i < r.length → W1.cell? ⟨b, o + i, none⟩ = some (.int .u8 ((r.getD i 0).toNat : Int)) := by
            rcases hd3 with h | h
            · rw [h] at hlt; simp at hlt
            · exact h
          have hck := hcc k hlt
          obtain ⟨B, hsl, hB⟩ := cut_from hA (k + 1) (by omega)
          have hdrop : r.drop k = r.getD k 0 :: r.drop (k + 1) := by
            rw [List.getD_eq_getElem?_getD, List.getElem?_eq_getElem hlt]
            exact List.drop_eq_getElem_cons hlt
          have hand := and_127 (r.getD k 0)
          have hxl := (r.getD k 0).toNat_lt
          have hD := HD.out
          rw [hdrop] at hD
          generalize hx : r.getD k 0 = x at hck hand hxl hD
          clear hx hdrop hcc hd3 HD
          obtain ⟨y, hy⟩ : ∃ y, y = x.toNat % 128 := ⟨_, rfl⟩
          rw [← hy] at hand
          have hyl : y ≤ 127 := by omega
          by_cases hbig : 128 ≤ x.toNat
          · have HD : Hid (decN 7 (c :: r) = decTail (3 - (k + 1)) (acc + y * 2 ^ (7 * k)) (k + 1) (r.drop (k + 1))) := by
              show decN 7 (c :: r) = _
              rw [hD, show 3 - k = 3 - (k + 1) + 1 by omega]
              simp only [decTail]
              rw [if_pos hbig, ← hy]
            clear hD hy hsl hB hA hA1
            rcases (by omega : k = 0 ∨ k = 1 ∨ k = 2) with rfl | rfl | rfl
            all_goals
              try rw [Nat.add_zero] at hck
              go_wp2
              go_round
              case rel => exact ⟨_, _, by omega, by omega, by go_num, by go_num, by omega, HD⟩
              case measure => simp [intOf]
          · by_cases hover : 9999 < acc + y * 2 ^ (7 * k)
            · have HD : Hid (decN 7 (c :: r) = none) := by
                show decN 7 (c :: r) = _
                rw [hD, show 3 - k = 3 - (k + 1) + 1 by omega]
                simp only [decTail]
                rw [if_neg hbig, ← hy, if_pos hover]
              clear hD hy hsl hB hA hA1
              rcases (by omega : k = 0 ∨ k = 1 ∨ k = 2) with rfl | rfl | rfl
              all_goals
                try rw [Nat.add_zero] at hck
                go_wp2
                all_goals
                  go_ret3
                  exact ⟨hE1, .inr ⟨HD.out, rfl⟩⟩
            · have HD : Hid (decN 7 (c :: r) = some (acc + y * 2 ^ (7 * k), r.drop (k + 1))) := by
                show decN 7 (c :: r) = _
                rw [hD, show 3 - k = 3 - (k + 1) + 1 by omega]
                simp only [decTail]
                rw [if_neg hbig, ← hy, if_neg hover]
              clear hD hy hA hA1
              rcases (by omega : k = 0 ∨ k = 1 ∨ k = 2) with rfl | rfl | rfl
              · have hs1 : ∀ W : World, (Instr.slice 22 (.slice (some ⟨b1, o1, none⟩) r.length (cap - 1)) (some (.int .i64 1)) none none).run Try.prog W = .ok (.slice B (r.length - 1) (cap - 1 - 1)) W := hsl
                have hB : IsBytes w0 (.slice B (r.length - 1) (cap - 1 - 1)) (r.drop 1) := hB
                clear hsl
                try rw [Nat.add_zero] at hck
                go_wp2_with fail
                go_quiet (fail)
                go_wp2
                go_ret3
                exact ⟨hE1.trans (drewN_ext _ _), .inl ⟨acc + y * 1, r.drop 1, _, HD.out, ret_cut (by omega), hB⟩⟩
              · have hs1 : ∀ W : World, (Instr.slice 22 (.slice (some ⟨b1, o1, none⟩) r.length (cap - 1)) (some (.int .i64 2)) none none).run Try.prog W = .ok (.slice B (r.length - 2) (cap - 1 - 2)) W := hsl
                have hB : IsBytes w0 (.slice B (r.length - 2) (cap - 1 - 2)) (r.drop 2) := hB
                clear hsl
                try rw [Nat.add_zero] at hck
                go_wp2_with fail
                go_quiet (fail)
                go_wp2
                go_ret3
                exact ⟨hE1.trans (drewN_ext _ _), .inl ⟨acc + y * 128, r.drop 2, _, HD.out, ret_cut (by omega), hB⟩⟩
              · have hs1 : ∀ W : World, (Instr.slice 22 (.slice (some ⟨b1, o1, none⟩) r.length (cap - 1)) (some (.int .i64 3)) none none).run Try.prog W = .ok (.slice B (r.length - 3) (cap - 1 - 3)) W := hsl
                have hB : IsBytes w0 (.slice B (r.length - 3) (cap - 1 - 3)) (r.drop 3) := hB
                clear hsl
                try rw [Nat.add_zero] at hck
                go_wp2_with fail
                go_quiet (fail)
                go_wp2
                go_ret3
                exact ⟨hE1.trans (drewN_ext _ _), .inl ⟨acc + y * 16384, r.drop 3, _, HD.out, ret_cut (by omega), hB⟩⟩
        · have hk : k = 3 := by omega
          subst hk
          go_wp2
          go_ret3
          exact ⟨hE1, .inr ⟨HD.out, rfl⟩⟩
      · have hD := HD.out
        rw [List.drop_of_length_le (by omega)] at hD
        have HD : Hid (decN 7 (c :: r) = none) := by
          show decN 7 (c :: r) = _
          rw [hD]
          cases 3 - k <;> rfl
        clear hD
        by_cases h3 : k < 3
        all_goals
          go_wp2
          go_ret3
          exact ⟨hE1, .inr ⟨HD.out, rfl⟩⟩

theorem and_31 (c : UInt8) : bits BinOp.and IntKind.i64 (c.toNat : Int) 31 = ((c.toNat % 32 : Nat) : Int) := by
  have : ∀ k : Fin 256, bits BinOp.and IntKind.i64 ((k.val : Nat) : Int) 31 = ((k.val % 32 : Nat) : Int) := by decide +kernel
  exact this ⟨c.toNat, c.toNat_lt⟩

set_option maxHeartbeats 800000 in
theorem cutNumber5_nil (v : Value) (w : World) (h : IsBytes w v []) :
    Calls Try.prog 104 #[v, .int .i64 5] w fun e w' => e = .returned (.tuple #[.int .i64 0, .slice none 0 0, .bool false]) ∧ w' = w := by
  obtain ⟨a, cap, rfl, hc1, hc2, hcell⟩ := h
  go_enter Try.func104, Try.ntmps104
  go_wp2
  go_ret3
  exact ⟨rfl, rfl⟩

set_option maxHeartbeats 3200000 in
set_option maxRecDepth 100000 in
theorem cutNumber5_cons (v : Value) (c : UInt8) (r : List UInt8) (w0 w : World) (h0 : Ext w0 w) (hb : IsBytes w0 v (c :: r)) (hl : r.length ≤ 100000) :
    Calls Try.prog 104 #[v, .int .i64 5] w fun e w' => Ext w w' ∧ ((∃ n rest v', decN 31 (c :: r) = some (n, rest) ∧ e = .returned (.tuple #[.int .i64 (n : Int), v', .bool true]) ∧ IsBytes w0 v' rest) ∨ (decN 31 (c :: r) = none ∧ e = .returned (.tuple #[.int .i64 0, .slice none 0 0, .bool false]))) := by
  obtain ⟨a, cap, rfl, hc1, hc2, hcell⟩ := hb.ext h0
  obtain ⟨b, o, rfl, hcc⟩ : ∃ b o, a = some ⟨b, o, none⟩ ∧ ∀ i, i < (c :: r).length → w.cell? ⟨b, o + i, none⟩ = some (.int .u8 (((c :: r).getD i 0).toNat : Int)) := by
    rcases hcell with h | h
    · cases h
    · exact h
  have hc0 : w.cell? ⟨b, o, none⟩ = some (.int .u8 (c.toNat : Int)) := hcc 0 (by simp)
  clear hcell hcc
  rw [List.length_cons] at hc1 hb ⊢
  have hcb : c.toNat < 256 := c.toNat_lt
  have hne : (((r.length : Nat) : Int) + 1 == 0) = false := by simp; omega
  have ha := and_31 c
  obtain ⟨q, hq⟩ : ∃ q, q = c.toNat % 32 := ⟨_, rfl⟩
  rw [← hq] at ha
  have hql : q ≤ 31 := by omega
  obtain ⟨A, hsl, hA⟩ := cut_from hb 1 (by simp)
  rw [show r.length + 1 - 1 = r.length by omega, show (c :: r).drop 1 = r from rfl] at hA
  rw [show r.length + 1 - 1 = r.length by omega, show ((1 : Nat) : Int) = 1 from rfl] at hsl
  by_cases hlow : q < 31
  · have HD : Hid (decN 31 (c :: r) = some (q, r)) := by
      show decN 31 (c :: r) = _
      simp only [decN]
      rw [← hq, if_pos hlow]
    clear hq
    go_enter Try.func104, Try.ntmps104
    go_wp2_with fail
    go_quiet ((go_at_call 103; exact Calls.quiet_of_same (full5 _)))
    go_wp2_with (go_at_call 103; refine (full5 _).mono ?_; rintro e w' ⟨rfl, hw⟩; subst hw)
    go_quiet (fail)
    go_wp2
    go_ret3
    exact ⟨(drewN_ext _ _).trans (drewN_ext _ _), .inl ⟨q, r, _, HD.out, rfl, hA⟩⟩
  · have hq7 : q = 31 := by omega
    subst hq7
    have HDx : True := trivial
    have HD : Hid (decN 31 (c :: r) = decTail 3 31 0 r) := by
      show decN 31 (c :: r) = _
      simp only [decN]
      rw [← hq, if_neg (by omega)]
    clear hq hlow hql
    go_enter Try.func104, Try.ntmps104
    go_wp2_with fail
    go_quiet ((go_at_call 103; exact Calls.quiet_of_same (full5 _)))
    go_wp2_with (go_at_call 103; refine (full5 _).mono ?_; rintro e w' ⟨rfl, hw⟩; subst hw)
    have hE1 := drewN_ext w nq
    have hA1 := hA.ext (h0.trans hE1)
    clear hsl hc0 hb ha hne HDx
    generalize w.drewN nq = W1 at hA1 hE1 ⊢
    go_loop [4, 8] (fun n i => ∃ k acc : Nat, k ≤ 3 ∧ k ≤ r.length ∧ i = .int .i64 k ∧ n = .int .i64 acc ∧ acc ≤ 31 + k * 3000000 ∧ Hid (decN 31 (c :: r) = decTail (3 - k) acc k (r.drop k))) (fun _ i => 3 - (intOf i).toNat)
    case atStart => exact ⟨0, 31, by omega, by omega, rfl, rfl, by omega, HD⟩
    case round =>
      obtain ⟨k, acc, hk3, hkr, rfl, rfl, hacc, HD⟩ := hrel
      by_cases hlt : k < r.length
      · by_cases h3 : k < 3
        · obtain ⟨a', cap', he, hd1, hd2, hd3⟩ := id hA1
          simp only [Value.slice.injEq, true_and] at he
          obtain ⟨rfl, rfl⟩ := he
          obtain ⟨b1, o1, rfl, hcc⟩ : ∃ b o, A = some ⟨b, o, none⟩ ∧ ∀ i, i < r.length → W1.cell? ⟨b, o + i, none⟩ = some (.int .u8 ((r.getD i 0).toNat : Int)) := by
            rcases hd3 with h | h
            · rw [h] at hlt; simp at hlt
            · exact h
          have hck := hcc k hlt
          obtain ⟨B, hsl, hB⟩ := cut_from hA (k + 1) (by omega)
          have hdrop : r.drop k = r.getD k 0 :: r.drop (k + 1) := by
            rw [List.getD_eq_getElem?_getD, List.getElem?_eq_getElem hlt]
            exact List.drop_eq_getElem_cons hlt
          have hand := and_127 (r.getD k 0)
          have hxl := (r.getD k 0).toNat_lt
          have hD := HD.out
          rw [hdrop] at hD
          generalize hx : r.getD k 0 = x at hck hand hxl hD
          clear hx hdrop hcc hd3 HD
          obtain ⟨y, hy⟩ : ∃ y, y = x.toNat % 128 := ⟨_, rfl⟩
          rw [← hy] at hand
          have hyl : y ≤ 127 := by omega
          by_cases hbig : 128 ≤ x.toNat
          · have HD : Hid (decN 31 (c :: r) = decTail (3 - (k + 1)) (acc + y * 2 ^ (7 * k)) (k + 1) (r.drop (k + 1))) := by
              show decN 31 (c :: r) = _
              rw [hD, show 3 - k = 3 - (k + 1) + 1 by omega]
              simp only [decTail]
              rw [if_pos hbig, ← hy]
            clear hD hy hsl hB hA hA1
            rcases (by omega : k = 0 ∨ k = 1 ∨ k = 2) with rfl | rfl | rfl
            all_goals
              try rw [Nat.add_zero] at hck
              go_wp2
              go_round
              case rel => exact ⟨_, _, by omega, by omega, by go_num, by go_num, by omega, HD⟩
              case measure => simp [intOf]
          · by_cases hover : 9999 < acc + y * 2 ^ (7 * k)
            · have HD : Hid (decN 31 (c :: r) = none) := by
                show decN 31 (c :: r) = _
                rw [hD, show 3 - k = 3 - (k + 1) + 1 by omega]
                simp only [decTail]
                rw [if_neg hbig, ← hy, if_pos hover]
              clear hD hy hsl hB hA hA1
              rcases (by omega : k = 0 ∨ k = 1 ∨ k = 2) with rfl | rfl | rfl
              all_goals
                try rw [Nat.add_zero] at hck
                go_wp2
                all_goals
                  go_ret3
                  exact ⟨hE1, .inr ⟨HD.out, rfl⟩⟩
            · have HD : Hid (decN 31 (c :: r) = some (acc + y * 2 ^ (7 * k), r.drop (k + 1))) := by
                show decN 31 (c :: r) = _
                rw [hD, show 3 - k = 3 - (k + 1) + 1 by omega]
                simp only [decTail]
                rw [if_neg hbig, ← hy, if_neg hover]
              clear hD hy hA hA1
              rcases (by omega : k = 0 ∨ k = 1 ∨ k = 2) with rfl | rfl | rfl
              · have hs1 : ∀ W : World, (Instr.slice 22 (.slice (some ⟨b1, o1, none⟩) r.length (cap - 1)) (some (.int .i64 1)) none none).run Try.prog W = .ok (.slice B (r.length - 1) (cap - 1 - 1)) W := hsl
                have hB : IsBytes w0 (.slice B (r.length - 1) (cap - 1 - 1)) (r.drop 1) := hB
                clear hsl
                try rw [Nat.add_zero] at hck
                go_wp2_with fail
                go_quiet (fail)
                go_wp2
                go_ret3
                exact ⟨hE1.trans (drewN_ext _ _), .inl ⟨acc + y * 1, r.drop 1, _, HD.out, ret_cut (by omega), hB⟩⟩
              · have hs1 : ∀ W : World, (Instr.slice 22 (.slice (some ⟨b1, o1, none⟩) r.length (cap - 1)) (some (.int .i64 2)) none none).run Try.prog W = .ok (.slice B (r.length - 2) (cap - 1 - 2)) W := hsl
                have hB : IsBytes w0 (.slice B (r.length - 2) (cap - 1 - 2)) (r.drop 2) := hB
                clear hsl
                try rw [Nat.add_zero] at hck
                go_wp2_with fail
                go_quiet (fail)
                go_wp2
                go_ret3
                exact ⟨hE1.trans (drewN_ext _ _), .inl ⟨acc + y * 128, r.drop 2, _, HD.out, ret_cut (by omega), hB⟩⟩
              · have hs1 : ∀ W : World, (Instr.slice 22 (.slice (some ⟨b1, o1, none⟩) r.length (cap - 1)) (some (.int .i64 3)) none none).run Try.prog W = .ok (.slice B (r.length - 3) (cap - 1 - 3)) W := hsl
                have hB : IsBytes w0 (.slice B (r.length - 3) (cap - 1 - 3)) (r.drop 3) := hB
                clear hsl
                try rw [Nat.add_zero] at hck
                go_wp2_with fail
                go_quiet (fail)
                go_wp2
                go_ret3
                exact ⟨hE1.trans (drewN_ext _ _), .inl ⟨acc + y * 16384, r.drop 3, _, HD.out, ret_cut (by omega), hB⟩⟩
        · have hk : k = 3 := by omega
          subst hk
          go_wp2
          go_ret3
          exact ⟨hE1, .inr ⟨HD.out, rfl⟩⟩
      · have hD := HD.out
        rw [List.drop_of_length_le (by omega)] at hD
        have HD : Hid (decN 31 (c :: r) = none) := by
          show decN 31 (c :: r) = _
          rw [hD]
          cases 3 - k <;> rfl
        clear hD
        by_cases h3 : k < 3
        all_goals
          go_wp2
          go_ret3
          exact ⟨hE1, .inr ⟨HD.out, rfl⟩⟩

/-- A number taken from the front: of any bytes. -/
theorem cutNumber3_any (v : Value) (l : List UInt8) (w0 w : World) (h0 : Ext w0 w) (h : IsBytes w0 v l) (hl : l.length ≤ 100000) :
    Calls Try.prog 104 #[v, .int .i64 3] w fun e w' => Ext w w' ∧ ((∃ n rest v', decN 7 l = some (n, rest) ∧ e = .returned (.tuple #[.int .i64 (n : Int), v', .bool true]) ∧ IsBytes w0 v' rest) ∨ (decN 7 l = none ∧ e = .returned (.tuple #[.int .i64 0, .slice none 0 0, .bool false]))) := by
  cases l with
  | nil => exact (cutNumber3_nil v w (h.ext h0)).mono fun e w' ⟨he, hw⟩ => ⟨hw ▸ Ext.refl _, .inr ⟨rfl, he⟩⟩
  | cons c r => exact cutNumber3_cons v c r w0 w h0 h (by simp at hl; omega)
theorem cutNumber5_any (v : Value) (l : List UInt8) (w0 w : World) (h0 : Ext w0 w) (h : IsBytes w0 v l) (hl : l.length ≤ 100000) :
    Calls Try.prog 104 #[v, .int .i64 5] w fun e w' => Ext w w' ∧ ((∃ n rest v', decN 31 l = some (n, rest) ∧ e = .returned (.tuple #[.int .i64 (n : Int), v', .bool true]) ∧ IsBytes w0 v' rest) ∨ (decN 31 l = none ∧ e = .returned (.tuple #[.int .i64 0, .slice none 0 0, .bool false]))) := by
  cases l with
  | nil => exact (cutNumber5_nil v w (h.ext h0)).mono fun e w' ⟨he, hw⟩ => ⟨hw ▸ Ext.refl _, .inr ⟨rfl, he⟩⟩
  | cons c r => exact cutNumber5_cons v c r w0 w h0 h (by simp at hl; omega)

end Go.Proofs.Ytoijpogadkogcaa
