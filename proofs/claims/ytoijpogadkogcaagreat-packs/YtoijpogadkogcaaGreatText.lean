/-
  A text taken from the front of bytes.
-/
import Derived.Test.YtoijpogadkogcaaGreatCut
namespace Go.Proofs.YtoijpogadkogcaaGreat
open Go.RowKit
set_option maxRecDepth 100000

theorem IsBytes.take {w : World} {a : Option Addr} {n cap : Nat} {l : List UInt8} (h : IsBytes w (.slice a n cap) l) (k : Nat) (hk : k ≤ l.length) : IsBytes w (sliced a 0 k cap 1) (l.take k) := by
  obtain ⟨a', cap', he, h1, h2, h3⟩ := h
  simp only [Value.slice.injEq] at he
  obtain ⟨rfl, rfl, rfl⟩ := he
  have hlk : (l.take k).length = k := by rw [List.length_take]; omega
  refine ⟨_, cap, by rw [sliced, hlk]; rfl, by omega, h2, ?_⟩
  rcases h3 with rfl | ⟨b, o, rfl, hc⟩
  · simp
  · by_cases hk0 : k = 0
    · left; rw [hk0, List.take_zero]
    · right
      refine ⟨b, o, ?_, ?_⟩
      · rw [if_neg (by omega)]; simp [Addr.add]
      · intro i hi
        rw [hlk] at hi
        rw [hc i (by omega)]
        simp [List.getD_eq_getElem?_getD, hi]
theorem cut_to {a : Option Addr} {n cap : Nat} {l : List UInt8} {w : World} (h : IsBytes w (.slice a n cap) l) (k : Nat) (hk : k ≤ l.length) :
    ∃ A, (∀ W : World, (Instr.slice 34 (.slice a n cap) none (some (.int .i64 (k : Int))) none).run Tryz.prog W = .ok (.slice A k cap) W) ∧ IsBytes w (.slice A k cap) (l.take k) := by
  have hn : n = l.length ∧ l.length ≤ cap := by
    obtain ⟨a', cap', he, h1, _⟩ := h
    simp only [Value.slice.injEq] at he
    exact ⟨he.2.1, by omega⟩
  refine ⟨_, fun W => ?_, IsBytes.take h k hk⟩
  rw [run_slice_h W 34 a n cap (by rw [elem_bytes]; exact Tryz.underlying34) .i64 (k : Int) (by omega) (by omega), elem_bytes, size_bytes]
  simp [sliced, Result.andThen]
theorem conv_bytes {a : Option Addr} {n cap : Nat} {l : List UInt8} {w : World} (h : IsBytes w (.slice a n cap) l) : (convert 34 9 (.slice a n cap)).run Tryz.prog w = .ok (.string ⟨l.toArray⟩) w := by
  obtain ⟨a', cap', he, h1, h2, h3⟩ := h
  simp only [Value.slice.injEq] at he
  obtain ⟨rfl, rfl, rfl⟩ := he
  rcases h3 with rfl | ⟨b, o, rfl, hc⟩
  · rw [run_convert_bytes_string w 34 9 5 _ _ _ Tryz.underlying34 Tryz.underlying5 Tryz.underlying9]
    cases a with
    | none => simp [Conv.bytesToString]; rfl
    | some x =>
      have := run_bytesToString (P := Tryz.prog) w x 0 cap [] (by simp [loadCells, loadCellsFrom])
      exact this
  · have := run_convert_bytes_arg (P := Tryz.prog) w 34 5 Tryz.underlying34 Tryz.underlying5 b o l.length cap (l.map fun u => (u.toNat : Int)) (by simp) (fun i hi => by
      rw [hc i hi]
      simp [List.getD_eq_getElem?_getD, List.getElem?_eq_getElem hi]) 9 Tryz.underlying9
    rw [this]
    congr 2
    apply ByteArray.ext
    apply Array.toList_inj.1
    rw [strOfNums_data, List.map_map]
    show _ = l
    conv => rhs; rw [← List.map_id l]
    apply List.map_congr_left
    intro x _
    simp

theorem decN_le (full n : Nat) (l rest : List UInt8) (hf : full ≤ 9999) (h : decN full l = some (n, rest)) : n ≤ 9999 := by
  cases l with
  | nil => simp [decN] at h
  | cons c r =>
    simp only [decN] at h
    split at h
    · simp only [Option.some.injEq, Prod.mk.injEq] at h; omega
    · exact decTail_le _ _ _ _ _ _ h

set_option maxHeartbeats 3200000 in
theorem cutText_any (v : Value) (l : List UInt8) (w0 w : World) (h0 : Ext w0 w) (h : IsBytes w0 v l) (hl : l.length ≤ 100000) :
    Calls Tryz.prog 196 #[v] w fun e w' => Ext w w' ∧ ((∃ t rest v', decT l = some (t, rest) ∧ e = .returned (.tuple #[.string ⟨t.toArray⟩, v', .bool true]) ∧ IsBytes w0 v' rest) ∨ (decT l = none ∧ e = .returned (.tuple #[.string ⟨#[]⟩, .slice none 0 0, .bool false]))) := by
  have HB := hide h
  obtain ⟨a, cap, rfl, hc1, hc2, hcell⟩ := h.ext h0
  cases l with
  | nil =>
    go_enter Tryz.func196, Tryz.ntmps196
    go_wp2_with fail
    go_quiet (fail)
    go_wp2
    go_ret3
    exact ⟨drewN_ext _ _, .inr ⟨rfl, rfl⟩⟩
  | cons c r =>
    obtain ⟨b, o, rfl, hcc⟩ : ∃ b o, a = some ⟨b, o, none⟩ ∧ ∀ i, i < (c :: r).length → w.cell? ⟨b, o + i, none⟩ = some (.int .u8 (((c :: r).getD i 0).toNat : Int)) := by
      rcases hcell with h | h
      · cases h
      · exact h
    have hc0 : w.cell? ⟨b, o, none⟩ = some (.int .u8 (c.toNat : Int)) := hcc 0 (by simp)
    clear hcell hcc
    have hcb : c.toNat < 256 := c.toNat_lt
    have hne : (((r.length : Nat) : Int) + 1 == 0) = false := by simp; omega
    rw [List.length_cons] at hc1 HB hl ⊢
    by_cases hbig : 31 < c.toNat
    · have HD : Hid (decT (c :: r) = none) := by show decT (c :: r) = none; simp only [decT]; rw [if_pos hbig]
      have hbig' : decide ((31 : Int) < (c.toNat : Int)) = true := by simp; omega
      go_enter Tryz.func196, Tryz.ntmps196
      go_wp2_with fail
      go_quiet ((go_at_call 194; exact Calls.quiet_of_same (full5 _)))
      go_wp2
      go_ret3
      exact ⟨drewN_ext _ _, .inr ⟨HD.out, rfl⟩⟩
    · have hbig' : decide ((31 : Int) < (c.toNat : Int)) = false := by simp; omega
      go_enter Tryz.func196, Tryz.ntmps196
      go_wp2_with fail
      go_quiet ((go_at_call 194; exact Calls.quiet_of_same (full5 _)))
      go_wp2_with fail
      have HE1 := hide (drewN_ext w nq)
      refine (cutNumber5_any _ (c :: r) w0 _ (h0.trans HE1.out) HB.out (by simp; omega)).mono ?_
      rintro e w2 ⟨hE2, ⟨n, rest, v2, hd, rfl, hB2⟩ | ⟨hd, rfl⟩⟩
      · have hn : n ≤ 9999 := decN_le 31 n _ _ (by omega) hd
        have hrl : rest.length ≤ r.length := by have h1 := decN_len 0 31 n _ _ hd; have h2 := encN_pos 0 31 n; rw [List.length_cons] at h1; omega
        by_cases hlen : rest.length < n
        · have HD : Hid (decT (c :: r) = none) := by show decT (c :: r) = none; simp only [decT, hd]; rw [if_neg hbig, if_pos hlen]
          clear hd
          obtain ⟨a2, cap2, rfl, hd1, hd2, hd3⟩ := hB2
          clear hd3
          go_wp2
          go_ret3
          exact ⟨HE1.out.trans hE2, .inr ⟨HD.out, rfl⟩⟩
        · have HD : Hid (decT (c :: r) = some (rest.take n, rest.drop n)) := by show decT (c :: r) = _; simp only [decT, hd]; rw [if_neg hbig, if_neg hlen]
          clear hd
          have hB2' := hB2
          obtain ⟨a2, cap2, rfl, hd1, hd2, hd3⟩ := hB2
          clear hd3
          obtain ⟨A, hsA, hBA⟩ := cut_to hB2' n (by omega)
          obtain ⟨B, hsB, hBB⟩ := cut_from hB2' n (by omega)
          have hcv : ∀ q, (convert 34 9 (.slice A n cap2)).run Tryz.prog (w2.drewN q) = .ok (.string ⟨(rest.take n).toArray⟩) (w2.drewN q) := fun q => conv_bytes (hBA.ext (h0.trans (HE1.out.trans (hE2.trans (drewN_ext _ _)))))
          clear hc0
          go_wp2_with fail
          go_quiet (fail)
          go_wp2
          go_ret3
          exact ⟨HE1.out.trans (hE2.trans (drewN_ext _ _)), .inl ⟨_, _, _, HD.out, rfl, hBB⟩⟩
      · have HD : Hid (decT (c :: r) = none) := by show decT (c :: r) = none; simp only [decT, hd]; rw [if_neg hbig]
        clear hd
        go_wp2
        go_ret3
        exact ⟨HE1.out.trans hE2, .inr ⟨HD.out, rfl⟩⟩
end Go.Proofs.YtoijpogadkogcaaGreat
