/-
  What the small functions answer: the least number that a prefix can't hold; is a byte one of a name's; are a name, a value, a header such as may be.
-/
import Derived.Test.YtoijpogadkogcaaGreatRows
import Derived.Test.YtoijpogadkogcaaGreatMath
import Derived.WalkKit
import Derived.WalkSpells
import Derived.WalkLawsBesides
namespace Go.Proofs.YtoijpogadkogcaaGreat
open Go.RowKit
set_option maxRecDepth 100000

set_option maxHeartbeats 400000 in
theorem full3 (w : World) : Calls Tryz.prog 194 #[.int .i64 3] w fun e w' => e = .returned (.int .i64 7) ∧ w' = w := by
  go_enter Tryz.func194, Tryz.ntmps194
  go_wp2
  go_ret
  exact ⟨rfl, rfl⟩
set_option maxHeartbeats 400000 in
theorem full5 (w : World) : Calls Tryz.prog 194 #[.int .i64 5] w fun e w' => e = .returned (.int .i64 31) ∧ w' = w := by
  go_enter Tryz.func194, Tryz.ntmps194
  go_wp2
  go_ret
  exact ⟨rfl, rfl⟩

theorem hide {p : Prop} (h : p) : Hid p := h
theorem unhide {p : Prop} (h : Hid p) : p := h.out
theorem ret_bool {a b : Bool} (h : a = b) : Ending.returned (.bool a) = .returned (.bool b) := by rw [h]
theorem ret_int {k : IntKind} {a b : Int} (h : a = b) : Ending.returned (.int k a) = .returned (.int k b) := by rw [h]

theorem nameB_is (c : UInt8) : nameB c = decide ((97 ≤ c.toNat ∧ c.toNat ≤ 122) ∨ (48 ≤ c.toNat ∧ c.toNat ≤ 57) ∨ c.toNat = 45) := by
  rw [Bool.eq_iff_iff]; simp [nameB, UInt8.le_iff_toNat_le, ← UInt8.toNat_inj]; omega
theorem valB_is (c : UInt8) : valB c = decide (32 ≤ c.toNat ∧ c.toNat ≤ 126) := by
  rw [Bool.eq_iff_iff]; simp [valB, UInt8.le_iff_toNat_le]

set_option maxHeartbeats 400000 in
theorem isNameByte_any (c : UInt8) (w : World) : Calls Tryz.prog 193 #[.int .u8 (c.toNat : Int)] w fun e w' => e = .returned (.bool (nameB c)) ∧ w' = w := by
  have hc : c.toNat < 256 := c.toNat_lt
  generalize hb : nameB c = b
  rw [nameB_is] at hb
  have HB := hide hb
  clear hb
  by_cases h1 : 97 ≤ c.toNat
  · by_cases h2 : c.toNat ≤ 122
    all_goals
      go_enter Tryz.func193, Tryz.ntmps193
      go_wp2
      all_goals
        go_ret
        exact ⟨ret_bool (by rw [← unhide HB, Bool.eq_iff_iff]; simp; omega), rfl⟩
  · by_cases h2 : 48 ≤ c.toNat
    all_goals
      go_enter Tryz.func193, Tryz.ntmps193
      go_wp2
      all_goals
        go_ret
        exact ⟨ret_bool (by rw [← unhide HB, Bool.eq_iff_iff]; simp; omega), rfl⟩

theorem byte_getD (s : ByteArray) (k : Nat) (h : k < s.size) : s.data.toList.getD k 0 = s[k] := by
  rw [List.getD_eq_getElem?_getD, List.getElem?_eq_getElem (by simpa using h)]; rfl

/-- All from a place on: what a loop that stops at the first that is none comes to. -/
theorem all_drop_stop (q : UInt8 → Bool) (l : List UInt8) (f k : Nat) (hf : f ≤ k) (hk : k < l.length) (h : q (l.getD k 0) = false) : (l.drop f).all q = false := by
  rw [List.all_eq_false]
  refine ⟨l[k], ?_, ?_⟩
  · rw [List.mem_drop_iff_getElem]
    exact ⟨k - f, by omega, by congr 1; omega⟩
  · rw [List.getD_eq_getElem?_getD, List.getElem?_eq_getElem hk] at h
    simpa using h
theorem all_drop_end (q : UInt8 → Bool) (l : List UInt8) (f : Nat) (h : ∀ j, f ≤ j → j < l.length → q (l.getD j 0) = true) : (l.drop f).all q = true := by
  rw [List.all_eq_true]
  intro x hx
  rw [List.mem_drop_iff_getElem] at hx
  obtain ⟨i, hi, rfl⟩ := hx
  have := h (f + i) (by omega) (by omega)
  rw [List.getD_eq_getElem?_getD, List.getElem?_eq_getElem (by omega)] at this
  simpa using this

theorem okValue_stop (s : ByteArray) (k : Nat) (h : k < s.size) (hb : Hid (s.data.toList.getD k 0 = s[k])) (hv : (s[k].toNat : Int) < 32 ∨ 126 < (s[k].toNat : Int)) : okValue s.data.toList = false := by
  have := all_drop_stop valB s.data.toList 0 k (Nat.zero_le _) (by simpa using h) (by rw [hb.out, valB_is]; simp; omega)
  unfold okValue
  rw [List.drop_zero] at this
  rw [this, Bool.and_false]
theorem okValue_end (s : ByteArray) (h60 : s.size ≤ 60) (k : Nat) (hk : ¬ k < s.size) (h : Hid (∀ j, 0 ≤ j → j < k → valB (s.data.toList.getD j 0) = true)) : okValue s.data.toList = true := by
  have hl : s.data.toList.length = s.size := by simp
  have := all_drop_end valB s.data.toList 0 (fun j h0 hj => h.out j h0 (by omega))
  unfold okValue
  rw [List.drop_zero] at this
  rw [this, Bool.and_true]
  simpa using h60

set_option maxHeartbeats 800000 in
theorem isValue_any (s : ByteArray) (w : World) (hs : s.size ≤ maxLen) : Calls Tryz.prog 166 #[.string s] w fun e w' => e = .returned (.bool (okValue s.data.toList)) ∧ w' = w := by
  unfold maxLen at hs
  by_cases h60 : s.size ≤ 60
  · go_enter Tryz.func166, Tryz.ntmps166
    go_wp2
    go_loop [3] (fun i => ∃ k : Nat, k ≤ s.size ∧ i = .int .i64 k ∧ Hid (∀ j, 0 ≤ j → j < k → valB (s.data.toList.getD j 0) = true)) (fun i => s.size - (intOf i).toNat)
    case atStart => exact ⟨0, Nat.zero_le _, rfl, fun j _ h => by omega⟩
    case round =>
      obtain ⟨k, hk, rfl, HA⟩ := hrel
      by_cases hlt : k < s.size
      · have HB : Hid (s.data.toList.getD k 0 = s[k]) := byte_getD s k hlt
        have hv : (s[k]).toNat < 256 := (s[k]).toNat_lt
        by_cases h1 : (s[k].toNat : Int) < 32
        · go_wp2
          go_ret
          exact ⟨ret_bool (by rw [okValue_stop s k hlt HB (.inl h1)]), rfl⟩
        · by_cases h2 : 126 < (s[k].toNat : Int)
          · go_wp2
            go_ret
            exact ⟨ret_bool (by rw [okValue_stop s k hlt HB (.inr h2)]), rfl⟩
          · go_wp2
            go_round
            case rel =>
              refine ⟨k + 1, by omega, by go_num, fun j _ hj => ?_⟩
              by_cases e : j = k
              · subst e; rw [HB.out, valB_is]; simp; omega
              · exact HA.out j (Nat.zero_le _) (by omega)
            case measure => simp [intOf]; omega
      · go_wp2
        go_ret
        exact ⟨ret_bool (by rw [okValue_end s h60 k hlt HA]), rfl⟩
  · go_enter Tryz.func166, Tryz.ntmps166
    go_wp2
    go_ret
    exact ⟨ret_bool (by simp [okValue]; omega), rfl⟩

theorem okName_stop (l : List UInt8) (f k : Nat) (hf : (if l.head? = some 58 ∧ 1 < l.length then 1 else 0) = f) (hfk : f ≤ k) (h : k < l.length) (hv : nameB (l.getD k 0) = false) : okName l = false := by
  have := all_drop_stop nameB l f k hfk h hv
  unfold okName
  rw [hf, this, Bool.and_false]
theorem okName_end (l : List UInt8) (f k : Nat) (h1 : 1 ≤ l.length) (h20 : l.length ≤ 20) (hf : (if l.head? = some 58 ∧ 1 < l.length then 1 else 0) = f) (hk : ¬ k < l.length) (h : ∀ j, f ≤ j → j < k → nameB (l.getD j 0) = true) : okName l = true := by
  have := all_drop_end nameB l f (fun j h0 hj => h j h0 (by omega))
  unfold okName
  rw [hf, this]
  simp [h1, h20]
theorem head_is (s : ByteArray) (h : 0 < s.size) : s.data.toList.head? = some s[0] := by
  rw [List.head?_eq_getElem?, List.getElem?_eq_getElem (by simpa using h)]; rfl

set_option maxHeartbeats 1600000 in
theorem isName_any (s : ByteArray) (w : World) (hs : s.size ≤ maxLen) : Calls Tryz.prog 165 #[.string s] w fun e w' => e = .returned (.bool (okName s.data.toList)) ∧ w' = w := by
  unfold maxLen at hs
  have hl : s.data.toList.length = s.size := by simp
  have HL := hide hl
  clear hl
  by_cases h1 : 1 ≤ s.size
  · by_cases h20 : s.size ≤ 20
    · have hp : 0 < s.size := h1
      have Hh : Hid (s.data.toList.head? = some s[0]) := head_is s hp
      obtain ⟨f, hfle, Hf, hst⟩ : ∃ f : Nat, f ≤ s.size ∧ Hid ((if s.data.toList.head? = some 58 ∧ 1 < s.data.toList.length then 1 else 0) = f) ∧ ((f = 0 ∧ (((s[0].toNat : Int) == 58) = false ∨ ¬ (1 : Int) < s.size)) ∨ (f = 1 ∧ ((s[0].toNat : Int) == 58) = true ∧ (1 : Int) < s.size)) := by
        by_cases hc : s[0].toNat = 58
        · by_cases hq : 1 < s.size
          · exact ⟨1, h1, by show (if _ then 1 else 0) = 1; rw [if_pos ⟨by rw [Hh.out]; exact congrArg some (UInt8.toNat_inj.1 hc), by rw [HL.out]; exact hq⟩], .inr ⟨rfl, by simp [hc], by omega⟩⟩
          · exact ⟨0, Nat.zero_le _, by show (if _ then 1 else 0) = 0; rw [if_neg (fun h => hq (by have := h.2; rw [HL.out] at this; exact this))], .inl ⟨rfl, .inr (by omega)⟩⟩
        · exact ⟨0, Nat.zero_le _, by show (if _ then 1 else 0) = 0; rw [if_neg (fun h => hc (by have := h.1; rw [Hh.out] at this; injection this with this; rw [this]; rfl))], .inl ⟨rfl, .inl (by simp; omega)⟩⟩
      clear Hh
      rcases hst with ⟨rfl, hst⟩ | ⟨rfl, hst, hst2⟩
      · rcases hst with hst | hst
        all_goals
          go_enter Tryz.func165, Tryz.ntmps165
          go_wp2
          all_goals
            go_loop [4] (fun i => ∃ k : Nat, 0 ≤ k ∧ k ≤ s.size ∧ i = .int .i64 k ∧ Hid (∀ j, 0 ≤ j → j < k → nameB (s.data.toList.getD j 0) = true)) (fun i => s.size - (intOf i).toNat)
            case atStart => exact ⟨0, Nat.le_refl _, by omega, rfl, fun j h0 h => by omega⟩
            case round =>
              obtain ⟨k, hfk, hk, rfl, HA⟩ := hrel
              by_cases hlt : k < s.size
              · have HB : Hid (s.data.toList.getD k 0 = s[k]) := byte_getD s k hlt
                have hv : (s[k]).toNat < 256 := (s[k]).toNat_lt
                cases hn : nameB s[k]
                · have HN := hide hn
                  clear hn
                  go_wp2_with (go_at_call 193; refine (isNameByte_any _ _).mono ?_; rintro e w' ⟨rfl, rfl⟩; rw [HN.out])
                  go_ret
                  exact ⟨ret_bool (by rw [okName_stop s.data.toList 0 k Hf.out hfk (by rw [HL.out]; exact hlt) (by rw [HB.out, HN.out])]), rfl⟩
                · have HN := hide hn
                  clear hn
                  go_wp2_with (go_at_call 193; refine (isNameByte_any _ _).mono ?_; rintro e w' ⟨rfl, rfl⟩; rw [HN.out])
                  go_round
                  case rel =>
                    refine ⟨k + 1, by omega, by omega, by go_num, fun j h0 hj => ?_⟩
                    by_cases e : j = k
                    · subst e; rw [HB.out, HN.out]
                    · exact HA.out j h0 (by omega)
                  case measure => simp [intOf]; omega
              · go_wp2
                go_ret
                exact ⟨ret_bool (by rw [okName_end s.data.toList 0 k (by rw [HL.out]; exact h1) (by rw [HL.out]; exact h20) Hf.out (by rw [HL.out]; exact hlt) HA.out]), rfl⟩
      · skip
        go_enter Tryz.func165, Tryz.ntmps165
        go_wp2
        all_goals
          go_loop [4] (fun i => ∃ k : Nat, 1 ≤ k ∧ k ≤ s.size ∧ i = .int .i64 k ∧ Hid (∀ j, 1 ≤ j → j < k → nameB (s.data.toList.getD j 0) = true)) (fun i => s.size - (intOf i).toNat)
          case atStart => exact ⟨1, Nat.le_refl _, by omega, rfl, fun j h0 h => by omega⟩
          case round =>
            obtain ⟨k, hfk, hk, rfl, HA⟩ := hrel
            by_cases hlt : k < s.size
            · have HB : Hid (s.data.toList.getD k 0 = s[k]) := byte_getD s k hlt
              have hv : (s[k]).toNat < 256 := (s[k]).toNat_lt
              cases hn : nameB s[k]
              · have HN := hide hn
                clear hn
                go_wp2_with (go_at_call 193; refine (isNameByte_any _ _).mono ?_; rintro e w' ⟨rfl, rfl⟩; rw [HN.out])
                go_ret
                exact ⟨ret_bool (by rw [okName_stop s.data.toList 1 k Hf.out hfk (by rw [HL.out]; exact hlt) (by rw [HB.out, HN.out])]), rfl⟩
              · have HN := hide hn
                clear hn
                go_wp2_with (go_at_call 193; refine (isNameByte_any _ _).mono ?_; rintro e w' ⟨rfl, rfl⟩; rw [HN.out])
                go_round
                case rel =>
                  refine ⟨k + 1, by omega, by omega, by go_num, fun j h0 hj => ?_⟩
                  by_cases e : j = k
                  · subst e; rw [HB.out, HN.out]
                  · exact HA.out j h0 (by omega)
                case measure => simp [intOf]; omega
            · go_wp2
              go_ret
              exact ⟨ret_bool (by rw [okName_end s.data.toList 1 k (by rw [HL.out]; exact h1) (by rw [HL.out]; exact h20) Hf.out (by rw [HL.out]; exact hlt) HA.out]), rfl⟩
    · go_enter Tryz.func165, Tryz.ntmps165
      go_wp2
      go_ret
      exact ⟨ret_bool (by simp [okName]; omega), rfl⟩
  · go_enter Tryz.func165, Tryz.ntmps165
    go_wp2
    go_ret
    exact ⟨ret_bool (by simp [okName]; omega), rfl⟩
end Go.Proofs.YtoijpogadkogcaaGreat
