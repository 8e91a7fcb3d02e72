/-
  A number packed behind what a slice of the call's own holds; a text; a header.
-/
import Derived.Test.YtoijpogadkogcaaGreatEntry
namespace Go.Proofs.YtoijpogadkogcaaGreat
open Go.RowKit
set_option maxRecDepth 100000

theorem Tryz.info5 : (Tryz.prog.info? 5).map (fun i => (i.zero, i.size, i.bytes)) = some (some (.int .u8 0), 1, 1) := by kernel_rfl

theorem or_high (high n : Nat) (hh : high = 128 ∨ high = 64) (hn : n < 8) : bits BinOp.or IntKind.u8 (high : Int) (n : Int) = ((high + n : Nat) : Int) := by
  rcases hh with rfl | rfl <;> (match n, hn with
    | 0, _ => decide
    | 1, _ => decide
    | 2, _ => decide
    | 3, _ => decide
    | 4, _ => decide
    | 5, _ => decide
    | 6, _ => decide
    | 7, _ => decide)
theorem enc_byte (n : Nat) (h : n < 256) : Value.int .u8 ((UInt8.ofNat n).toNat : Int) = .int .u8 (n : Int) := by
  rw [UInt8.toNat_ofNat', Nat.mod_eq_of_lt (by omega)]

theorem or_zero (high n : Nat) (hh : high = 0) (hn : n < 32) : bits BinOp.or IntKind.u8 (high : Int) (n : Int) = ((high + n : Nat) : Int) := by
  subst hh
  have : ∀ k : Fin 32, bits BinOp.or IntKind.u8 ((0 : Nat) : Int) ((k.val : Nat) : Int) = ((0 + k.val : Nat) : Int) := by decide
  exact this ⟨n, hn⟩

set_option maxHeartbeats 800000 in
theorem appendNumber3_low (high n : Nat) (v : Value) (l : List UInt8) (base : Nat) (w : World) (hh : high = 128 ∨ high = 64) (hn : n < 7) (hl : l.length ≤ 100000) (hb : base ≤ w.heap.size) (hown : w.ownsRow base 5 1 v l.length (bcells l)) :
    Calls Tryz.prog 168 #[v, .int .u8 (high : Int), .int .i64 3, .int .i64 (n : Int)] w fun e w' => ∃ v', e = .returned v' ∧ w'.ownsRow base 5 1 v' (l ++ encN high 7 n).length (bcells (l ++ encN high 7 n)) ∧ Grew w v w' v' := by
  obtain ⟨i0, hi, hz0, hz1, hz2⟩ := info_parts Tryz.info5
  have ho := or_high high n hh (by omega)
  have HE : Hid (bcells (l ++ encN high 7 n) = bcells l ++ [.int .u8 ((high + n : Nat) : Int)] ∧ (l ++ encN high 7 n).length = l.length + 1) := by
    unfold encN
    rw [if_pos hn]
    exact ⟨by rw [bcells_append]; congr 1; show [Value.int .u8 _] = _; rw [enc_byte _ (by omega)], by simp⟩
  clear hh
  generalize hx : ((high + n : Nat) : Int) = x at ho HE
  clear hx
  go_enter Tryz.func168, Tryz.ntmps168
  go_wp2_with (first
    | (go_at_call 194; refine (full3 _).mono ?_; rintro e w' ⟨rfl, rfl⟩)
    | (at_builtin; refine wpList_append_src _ rfl _ _ 34 34 rfl base 5 i0 (.int .u8 0) 1 1 Tryz.underlying34 hi hz0 hz1 hz2 rfl (by decide) _ _ _ rfl (hown.alloc _) _ 1 [.int .u8 x] rfl (src_one _ _ Tryz.underlying34 _ rfl) ?_ ?_ ?_ ?_))
  · unfold maxLen; omega
  · omega
  · simp; omega
  · intro v' w1 hown' hgrew
    go_wp2
    go_ret
    exact ⟨v', rfl, owns_len hown' HE.out.2.symm HE.out.1.symm, (Grew.alloc _ _ _).trans hgrew⟩
set_option maxHeartbeats 1600000 in
theorem appendNumber3_high (high n : Nat) (v : Value) (l : List UInt8) (base : Nat) (w : World) (hh : high = 128 ∨ high = 64) (hn : 7 ≤ n) (hm : n ≤ 100) (hl : l.length ≤ 100000) (hb : base ≤ w.heap.size) (hown : w.ownsRow base 5 1 v l.length (bcells l)) :
    Calls Tryz.prog 168 #[v, .int .u8 (high : Int), .int .i64 3, .int .i64 (n : Int)] w fun e w' => ∃ v', e = .returned v' ∧ w'.ownsRow base 5 1 v' (l ++ encN high 7 n).length (bcells (l ++ encN high 7 n)) ∧ Grew w v w' v' := by
  obtain ⟨i0, hi, hz0, hz1, hz2⟩ := info_parts Tryz.info5
  have ho : bits BinOp.or IntKind.u8 (high : Int) 7 = ((high + 7 : Nat) : Int) := or_high high 7 hh (by omega)
  have HE : Hid (bcells (l ++ encN high 7 n) = bcells l ++ [.int .u8 ((high + 7 : Nat) : Int), .int .u8 ((n : Int) - 7)] ∧ (l ++ encN high 7 n).length = l.length + 1 + 1) := by
    unfold encN
    rw [if_neg (by omega)]
    refine ⟨?_, by simp⟩
    rw [bcells_append]
    congr 1
    show [Value.int .u8 _, Value.int .u8 _] = _
    rw [enc_byte _ (by omega), enc_byte _ (by omega), Int.ofNat_sub hn]
    rfl
  clear hh
  generalize hx : ((high + 7 : Nat) : Int) = x at ho HE
  clear hx
  go_enter Tryz.func168, Tryz.ntmps168
  go_wp2_with (first
    | (go_at_call 194; refine (full3 _).mono ?_; rintro e w' ⟨rfl, rfl⟩)
    | (at_builtin; refine wpList_append_src _ rfl (.tmp 20) (.tmp 26) 34 34 rfl base 5 i0 (.int .u8 0) 1 1 Tryz.underlying34 hi hz0 hz1 hz2 rfl (by decide) _ _ _ rfl (hown.alloc _) _ 1 [.int .u8 x] rfl (src_one _ _ Tryz.underlying34 _ rfl) ?_ ?_ ?_ ?_))
  · unfold maxLen; omega
  · omega
  · simp; omega
  · intro v1 w1 hown1 hgrew1
    have hz : base ≤ w1.heap.size := by have := hgrew1.grown.size; simp at this; omega
    go_wp2_with (go_at_call 194; refine (full3 _).mono ?_; rintro e w' ⟨rfl, rfl⟩)
    refine wp_loop_rounds 1 ?_
    rw [rounds_succ]
    go_wp2_with (at_builtin; refine wpList_append_src _ rfl (.tmp 43) (.tmp 46) 34 34 rfl base 5 i0 (.int .u8 0) 1 1 Tryz.underlying34 hi hz0 hz1 hz2 rfl (by decide) _ _ _ rfl (hown1.alloc _) _ 1 [.int .u8 ((n : Int) - 7)] rfl (src_one _ _ Tryz.underlying34 _ rfl) ?_ ?_ ?_ ?_)
    · unfold maxLen; omega
    · omega
    · simp; omega
    · intro v2 w2 hown2 hgrew2
      go_wp2
      go_ret
      exact ⟨v2, rfl, owns_len hown2 HE.out.2.symm HE.out.1.symm, (Grew.alloc _ _ _).trans (hgrew1.trans ((Grew.alloc _ _ _).trans hgrew2))⟩
theorem appendNumber3_any (high n : Nat) (v : Value) (l : List UInt8) (base : Nat) (w : World) (hh : high = 128 ∨ high = 64) (hm : n ≤ 100) (hl : l.length ≤ 100000) (hb : base ≤ w.heap.size) (hown : w.ownsRow base 5 1 v l.length (bcells l)) :
    Calls Tryz.prog 168 #[v, .int .u8 (high : Int), .int .i64 3, .int .i64 (n : Int)] w fun e w' => ∃ v', e = .returned v' ∧ w'.ownsRow base 5 1 v' (l ++ encN high 7 n).length (bcells (l ++ encN high 7 n)) ∧ Grew w v w' v' := by
  by_cases hn : n < 7
  · exact appendNumber3_low high n v l base w hh hn hl hb hown
  · exact appendNumber3_high high n v l base w hh (by omega) hm hl hb hown

set_option maxHeartbeats 800000 in
theorem appendNumber5_low (high n : Nat) (v : Value) (l : List UInt8) (base : Nat) (w : World) (hh : high = 0) (hn : n < 31) (hl : l.length ≤ 100000) (hb : base ≤ w.heap.size) (hown : w.ownsRow base 5 1 v l.length (bcells l)) :
    Calls Tryz.prog 168 #[v, .int .u8 (high : Int), .int .i64 5, .int .i64 (n : Int)] w fun e w' => ∃ v', e = .returned v' ∧ w'.ownsRow base 5 1 v' (l ++ encN high 31 n).length (bcells (l ++ encN high 31 n)) ∧ Grew w v w' v' := by
  obtain ⟨i0, hi, hz0, hz1, hz2⟩ := info_parts Tryz.info5
  have ho := or_zero high n hh (by omega)
  have HE : Hid (bcells (l ++ encN high 31 n) = bcells l ++ [.int .u8 ((high + n : Nat) : Int)] ∧ (l ++ encN high 31 n).length = l.length + 1) := by
    unfold encN
    rw [if_pos hn]
    exact ⟨by rw [bcells_append]; congr 1; show [Value.int .u8 _] = _; rw [enc_byte _ (by omega)], by simp⟩
  clear hh
  generalize hx : ((high + n : Nat) : Int) = x at ho HE
  clear hx
  go_enter Tryz.func168, Tryz.ntmps168
  go_wp2_with (first
    | (go_at_call 194; refine (full5 _).mono ?_; rintro e w' ⟨rfl, rfl⟩)
    | (at_builtin; refine wpList_append_src _ rfl _ _ 34 34 rfl base 5 i0 (.int .u8 0) 1 1 Tryz.underlying34 hi hz0 hz1 hz2 rfl (by decide) _ _ _ rfl (hown.alloc _) _ 1 [.int .u8 x] rfl (src_one _ _ Tryz.underlying34 _ rfl) ?_ ?_ ?_ ?_))
  · unfold maxLen; omega
  · omega
  · simp; omega
  · intro v' w1 hown' hgrew
    go_wp2
    go_ret
    exact ⟨v', rfl, owns_len hown' HE.out.2.symm HE.out.1.symm, (Grew.alloc _ _ _).trans hgrew⟩
set_option maxHeartbeats 1600000 in
theorem appendNumber5_high (high n : Nat) (v : Value) (l : List UInt8) (base : Nat) (w : World) (hh : high = 0) (hn : 31 ≤ n) (hm : n ≤ 100) (hl : l.length ≤ 100000) (hb : base ≤ w.heap.size) (hown : w.ownsRow base 5 1 v l.length (bcells l)) :
    Calls Tryz.prog 168 #[v, .int .u8 (high : Int), .int .i64 5, .int .i64 (n : Int)] w fun e w' => ∃ v', e = .returned v' ∧ w'.ownsRow base 5 1 v' (l ++ encN high 31 n).length (bcells (l ++ encN high 31 n)) ∧ Grew w v w' v' := by
  obtain ⟨i0, hi, hz0, hz1, hz2⟩ := info_parts Tryz.info5
  have ho : bits BinOp.or IntKind.u8 (high : Int) 31 = ((high + 31 : Nat) : Int) := or_zero high 31 hh (by omega)
  have HE : Hid (bcells (l ++ encN high 31 n) = bcells l ++ [.int .u8 ((high + 31 : Nat) : Int), .int .u8 ((n : Int) - 31)] ∧ (l ++ encN high 31 n).length = l.length + 1 + 1) := by
    unfold encN
    rw [if_neg (by omega)]
    refine ⟨?_, by simp⟩
    rw [bcells_append]
    congr 1
    show [Value.int .u8 _, Value.int .u8 _] = _
    rw [enc_byte _ (by omega), enc_byte _ (by omega), Int.ofNat_sub hn]
    rfl
  clear hh
  generalize hx : ((high + 31 : Nat) : Int) = x at ho HE
  clear hx
  go_enter Tryz.func168, Tryz.ntmps168
  go_wp2_with (first
    | (go_at_call 194; refine (full5 _).mono ?_; rintro e w' ⟨rfl, rfl⟩)
    | (at_builtin; refine wpList_append_src _ rfl (.tmp 20) (.tmp 26) 34 34 rfl base 5 i0 (.int .u8 0) 1 1 Tryz.underlying34 hi hz0 hz1 hz2 rfl (by decide) _ _ _ rfl (hown.alloc _) _ 1 [.int .u8 x] rfl (src_one _ _ Tryz.underlying34 _ rfl) ?_ ?_ ?_ ?_))
  · unfold maxLen; omega
  · omega
  · simp; omega
  · intro v1 w1 hown1 hgrew1
    have hz : base ≤ w1.heap.size := by have := hgrew1.grown.size; simp at this; omega
    go_wp2_with (go_at_call 194; refine (full5 _).mono ?_; rintro e w' ⟨rfl, rfl⟩)
    refine wp_loop_rounds 1 ?_
    rw [rounds_succ]
    go_wp2_with (at_builtin; refine wpList_append_src _ rfl (.tmp 43) (.tmp 46) 34 34 rfl base 5 i0 (.int .u8 0) 1 1 Tryz.underlying34 hi hz0 hz1 hz2 rfl (by decide) _ _ _ rfl (hown1.alloc _) _ 1 [.int .u8 ((n : Int) - 31)] rfl (src_one _ _ Tryz.underlying34 _ rfl) ?_ ?_ ?_ ?_)
    · unfold maxLen; omega
    · omega
    · simp; omega
    · intro v2 w2 hown2 hgrew2
      go_wp2
      go_ret
      exact ⟨v2, rfl, owns_len hown2 HE.out.2.symm HE.out.1.symm, (Grew.alloc _ _ _).trans (hgrew1.trans ((Grew.alloc _ _ _).trans hgrew2))⟩
theorem appendNumber5_any (high n : Nat) (v : Value) (l : List UInt8) (base : Nat) (w : World) (hh : high = 0) (hm : n ≤ 100) (hl : l.length ≤ 100000) (hb : base ≤ w.heap.size) (hown : w.ownsRow base 5 1 v l.length (bcells l)) :
    Calls Tryz.prog 168 #[v, .int .u8 (high : Int), .int .i64 5, .int .i64 (n : Int)] w fun e w' => ∃ v', e = .returned v' ∧ w'.ownsRow base 5 1 v' (l ++ encN high 31 n).length (bcells (l ++ encN high 31 n)) ∧ Grew w v w' v' := by
  by_cases hn : n < 31
  · exact appendNumber5_low high n v l base w hh hn hl hb hown
  · exact appendNumber5_high high n v l base w hh (by omega) hm hl hb hown

theorem appendNumber_128 (n : Nat) (v : Value) (l : List UInt8) (base : Nat) (w : World) (hm : n ≤ 100) (hl : l.length ≤ 100000) (hb : base ≤ w.heap.size) (hown : w.ownsRow base 5 1 v l.length (bcells l)) :
    Calls Tryz.prog 168 #[v, .int .u8 128, .int .i64 3, .int .i64 (n : Int)] w fun e w' => ∃ v', e = .returned v' ∧ w'.ownsRow base 5 1 v' (l ++ encN 128 7 n).length (bcells (l ++ encN 128 7 n)) ∧ Grew w v w' v' :=
  appendNumber3_any 128 n v l base w (.inl rfl) hm hl hb hown
theorem appendNumber_64 (n : Nat) (v : Value) (l : List UInt8) (base : Nat) (w : World) (hm : n ≤ 100) (hl : l.length ≤ 100000) (hb : base ≤ w.heap.size) (hown : w.ownsRow base 5 1 v l.length (bcells l)) :
    Calls Tryz.prog 168 #[v, .int .u8 64, .int .i64 3, .int .i64 (n : Int)] w fun e w' => ∃ v', e = .returned v' ∧ w'.ownsRow base 5 1 v' (l ++ encN 64 7 n).length (bcells (l ++ encN 64 7 n)) ∧ Grew w v w' v' :=
  appendNumber3_any 64 n v l base w (.inr rfl) hm hl hb hown
theorem appendNumber_0 (n : Nat) (v : Value) (l : List UInt8) (base : Nat) (w : World) (hm : n ≤ 100) (hl : l.length ≤ 100000) (hb : base ≤ w.heap.size) (hown : w.ownsRow base 5 1 v l.length (bcells l)) :
    Calls Tryz.prog 168 #[v, .int .u8 0, .int .i64 5, .int .i64 (n : Int)] w fun e w' => ∃ v', e = .returned v' ∧ w'.ownsRow base 5 1 v' (l ++ encN 0 31 n).length (bcells (l ++ encN 0 31 n)) ∧ Grew w v w' v' :=
  appendNumber5_any 0 n v l base w rfl hm hl hb hown

theorem encN_le (high full n : Nat) : (encN high full n).length ≤ 2 := (encN_pos high full n).2

set_option maxHeartbeats 1600000 in
theorem appendText_any (s : ByteArray) (v : Value) (l : List UInt8) (base : Nat) (w : World) (hs : s.size ≤ 60) (hl : l.length ≤ 90000) (hb : base ≤ w.heap.size) (hown : w.ownsRow base 5 1 v l.length (bcells l)) :
    Calls Tryz.prog 170 #[v, .string s] w fun e w' => ∃ v', e = .returned v' ∧ w'.ownsRow base 5 1 v' (l ++ encT s.data.toList).length (bcells (l ++ encT s.data.toList)) ∧ Grew w v w' v' := by
  obtain ⟨i0, hi, hz0, hz1, hz2⟩ := info_parts Tryz.info5
  have HE : Hid (bcells (l ++ encT s.data.toList) = bcells (l ++ encN 0 31 s.size) ++ byteCells s ∧ (l ++ encT s.data.toList).length = (l ++ encN 0 31 s.size).length + s.size) := by
    have hsz : s.data.toList.length = s.size := by simp
    unfold encT
    rw [hsz, ← List.append_assoc]
    exact ⟨by rw [bcells_append]; rfl, by rw [List.length_append, hsz]⟩
  have hN : (l ++ encN 0 31 s.size).length ≤ 90002 := by rw [List.length_append]; have := encN_le 0 31 s.size; omega
  generalize hl1 : l ++ encN 0 31 s.size = l1 at HE hN
  have HL1 := hide hl1
  clear hl1
  go_enter Tryz.func170, Tryz.ntmps170
  go_wp2_with fail
  refine (appendNumber_0 s.size v l base w (by omega) (by omega) hb hown).mono ?_
  rintro e w1 ⟨v1, rfl, hown1, hgrew1⟩
  rw [HL1.out] at hown1
  have hz : base ≤ w1.heap.size := by have := hgrew1.grown.size; omega
  go_wp2_with (at_builtin; refine wpList_append_src _ rfl (.tmp 9) (.tmp 10) 34 9 rfl base 5 i0 (.int .u8 0) 1 1 Tryz.underlying34 hi hz0 hz1 hz2 rfl (by decide) _ _ _ rfl hown1 _ s.size (byteCells s) rfl (Src.ofString _ Tryz.underlying9 s) ?_ ?_ ?_ ?_)
  · unfold maxLen; omega
  · omega
  · exact hz
  · intro v2 w2 hown2 hgrew2
    go_wp2
    go_ret
    exact ⟨v2, rfl, owns_len hown2 HE.out.2.symm HE.out.1.symm, hgrew1.trans hgrew2⟩
end Go.Proofs.YtoijpogadkogcaaGreat
