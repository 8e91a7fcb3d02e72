/-
  Proved: for every whole number c and every slice of bytes b the law ferrykeep.Unpacked answers true (what is packed is unpacked; what any bytes tell is packed again, in no more bytes), and both arguments read afterwards as before. No condition on the arguments beyond the row's own.
-/
import Derived.Test.YtoijpogadkogcaaHdrs
import Derived.ProofKit
import Derived.OpenShut
import Derived.ShutString
import Derived.ChangeOld
import Derived.Below
namespace Go.Proofs.Ytoijpogadkogcaa.unpacked
open Go.ChangeShapes Go.WideShapes Go.ChangeAt Go.RowKit
open Go.ChangeMaps (open_string shut_string)
set_option linter.unusedVariables false

theorem own : ownKnob Try.prog.godebug = none := by kernel_rfl
theorem laidOut : laidOutB Try.prog = true := by kernel_rfl

/-- WHAT THE WALK IS TOLD OF A SLICE OF INTEGERS THAT CAME IN: it is nil; or it leads to a row of 'cap' cells, the numbers 'zs' (the first 'len' are its elements, the rest its spare room), each fitting its kind. -/
def IsRow (k : IntKind) (w : World) (a : Option Addr) (len cap : Nat) (zs : List Int) : Prop :=
  (a = none ∧ len = 0 ∧ cap = 0 ∧ zs = []) ∨
  ∃ x, a = some x ∧ len ≤ cap ∧ cap ≤ maxLen ∧ zs.length = cap ∧ (∀ i, i < zs.length → w.cell? (x.add i) = some (.int k (zs.getD i 0))) ∧ ∀ n ∈ zs, (Lit.int k n).wf = true

theorem packs_le (m : List (List UInt8 × List UInt8)) (h : packs m = true) : m.length ≤ 1000 := by
  simp only [packs, Bool.and_eq_true, decide_eq_true_eq] at h
  omega
theorem packs_sizes (m : List (List UInt8 × List UInt8)) (h : packs m = true) : ∀ p ∈ m, p.1.length ≤ maxLen ∧ p.2.length ≤ maxLen := by
  simp only [packs, okAll, Bool.and_eq_true, decide_eq_true_eq, List.all_eq_true] at h
  intro p hp
  have := okPair_len p (h.2 p hp)
  unfold maxLen
  omega
theorem bytes_of_row {w : World} {a : Option Addr} {len cap : Nat} {zs : List Int} (h : IsRow .u8 w a len cap zs) : ∃ l, IsBytes w (.slice a len cap) l := by
  rcases h with ⟨rfl, rfl, rfl, rfl⟩ | ⟨x, rfl, h1, h2, h3, hc, hw⟩
  · exact ⟨[], IsBytes.nil w⟩
  · have hll : ((zs.take len).map fun n => UInt8.ofNat n.toNat).length = len := by rw [List.length_map, List.length_take]; omega
    refine ⟨(zs.take len).map fun n => UInt8.ofNat n.toNat, some x, cap, by rw [hll], by omega, h2, ?_⟩
    by_cases h0 : len = 0
    · left; subst h0; simp
    · right
      obtain ⟨b, o, sp⟩ := x
      have hz := hc 0 (by omega)
      have hsp : sp = none := by simpa [Addr.add] using World.cell?_spot hz
      subst hsp
      refine ⟨b, o, rfl, fun i hi => ?_⟩
      rw [hll] at hi
      have hi' := hc i (by omega)
      have hm : zs.getD i 0 ∈ zs := by rw [List.getD_eq_getElem?_getD, List.getElem?_eq_getElem (by omega)]; exact List.getElem_mem _
      have hb := bounds_u8 (hw _ hm)
      have e : (((zs.take len).map fun n => UInt8.ofNat n.toNat).getD i 0).toNat = (zs.getD i 0).toNat := by
        rw [List.getD_eq_getElem?_getD, List.getElem?_map, List.getElem?_take_of_lt hi, List.getElem?_eq_getElem (by omega)]
        rw [List.getD_eq_getElem?_getD, List.getElem?_eq_getElem (by omega)] at hb ⊢
        simp only [Option.map_some, Option.getD_some] at hb ⊢
        rw [UInt8.toNat_ofNat']
        omega
      rw [e, Int.toNat_of_nonneg hb.1]
      have hadd : (⟨b, o, none⟩ : Addr).add i = ⟨b, o + i, none⟩ := by unfold Addr.add; split <;> simp_all
      rw [hadd] at hi'
      exact hi'

/-! ### STEP 1: THE WALK: the Go text returns true, AND WRITES NOTHING THAT WAS THERE: 'Below w.heap.size w w'' (Derived/Below.lean: '.refl', '.alloc', '.drew', '.setCell' at a new block, '.trans'). Open each 'IsRow' by 'rcases' AHEAD of 'go_enter'; part every test ahead of the walk. -/
set_option maxHeartbeats 3200000 in
theorem walk (a0 : Int) (a1 : Option Addr) (len1 cap1 : Nat) (z1 : List Int) (w : World) (w0 : (Lit.int .i64 a0).wf = true) (w1 : IsRow .u8 w a1 len1 cap1 z1) :
    Calls Try.prog 3 #[.int .i64 a0, .slice a1 len1 cap1] w fun e w' => e = .returned (.bool true) ∧ Below w.heap.size w w' := by
  obtain ⟨hc1, hc2⟩ : -9223372036854775808 ≤ a0 ∧ a0 ≤ 9223372036854775807 := by
    have := bounds_i64 w0
    omega
  obtain ⟨l, hl⟩ := bytes_of_row w1
  have HB := hide hl
  clear hl w1
  go_enter Try.func3, Try.ntmps3
  go_wp2_with fail
  refine (headers_any a0 w hc1 hc2).mono ?_
  rintro e w1 ⟨m, vh, rfl, hpk, hown1, hE1⟩
  have HPK := hide hpk
  have hP1 := IsPairs.ofOwns hown1
  have HS := hide (packs_sizes m hpk)
  clear hpk hown1
  go_wp2_with fail
  refine (fPack_any vh m w1 hP1 HS.out).mono ?_
  rintro e w2 ⟨hE2, ⟨_, vp, rfl, hown2⟩ | ⟨hno, _⟩⟩
  · have hB2 := IsBytes.ofOwns hown2
    have hP2 := hP1.ext hE2
    clear hown2 hP1
    go_wp2_with fail
    refine (fUnpack_any vp (encAll m) w2 hB2).mono ?_
    rintro e w3 ⟨hE3, ⟨m3, vl, hu, rfl, hown3⟩ | ⟨hu, _⟩⟩
    · obtain rfl : m3 = m := by rw [unpacks_enc m HPK.out] at hu; exact (Option.some.inj hu).symm
      have hP3 := IsPairs.ofOwns hown3
      have hP2 := hP2.ext hE3
      clear hown3 hu hB2
      go_wp2_with fail
      refine (same_any vh vl m3 w3 hP2 hP3 (packs_le m3 HPK.out)).mono ?_
      rintro e w4 ⟨rfl, hE4⟩
      have hE14 := hE1.trans (hE2.trans (hE3.trans hE4))
      clear hE1 hE2 hE3 hE4 hP2 hP3
      go_wp2_with fail
      refine (fUnpack_any _ l w4 (HB.out.ext hE14)).mono ?_
      rintro e w5 ⟨hE5, ⟨m5, v5, hu, rfl, hown5⟩ | ⟨hu, rfl⟩⟩
      · obtain ⟨hpk5, hlen5, h85, hs5⟩ := unpacks_len l m5 hu
        have HPK5 := hide hpk5
        have HS5 := hide hs5
        have hP5 := IsPairs.ofOwns hown5
        clear hu hpk5 hs5 hown5
        go_wp2_with fail
        refine (fPack_any v5 m5 w5 hP5 HS5.out).mono ?_
        rintro e w6 ⟨hE6, ⟨_, v6, rfl, hown6⟩ | ⟨hno, _⟩⟩
        · have hB6 := IsBytes.ofOwns hown6
          have hP6 := hP5.ext hE6
          clear hown6 hP5
          go_wp2_with fail
          refine (fUnpack_any v6 (encAll m5) w6 hB6).mono ?_
          rintro e w7 ⟨hE7, ⟨m7, v7, hu, rfl, hown7⟩ | ⟨hu, _⟩⟩
          · obtain rfl : m7 = m5 := by rw [unpacks_enc m5 HPK5.out] at hu; exact (Option.some.inj hu).symm
            have hP7 := IsPairs.ofOwns hown7
            have hP6 := hP6.ext hE7
            clear hown7 hu
            go_wp2_with fail
            refine (same_any v5 v7 m7 w7 hP6 hP7 (by omega)).mono ?_
            rintro e w8 ⟨rfl, hE8⟩
            have hE18 := hE14.trans (hE5.trans (hE6.trans (hE7.trans hE8)))
            obtain ⟨a6, cap6, rfl, _, _, _⟩ := hB6
            have hlen1 : len1 = l.length := IsBytes.len HB.out
            have hle : (((encAll m7).length : Nat) : Int) ≤ (len1 : Int) := by omega
            clear hE5 hE6 hE7 hE8 hP6 hP7 hE14 hlen1
            go_wp2
            go_ret
            exact ⟨ret_bool (by simp), hE18⟩
          · rw [unpacks_enc m5 HPK5.out] at hu; cases hu
        · rw [HPK5.out] at hno; cases hno
      · have hE15 := hE14.trans hE5
        clear hu hE14 hE5
        go_wp2
        go_ret
        exact ⟨rfl, hE15⟩
    · rw [unpacks_enc m HPK.out] at hu; cases hu
  · rw [HPK.out] at hno; cases hno

/-! ### THE ROW's STEP: WRITTEN OUT: LEAVE IT -/
set_option maxRecDepth 100000 in
theorem lifted (os : Os) (started : os.Started) (H : Type) (enc : TypeId × Value → H) :
    ReturnsInHanded {} Try.checked os 3 .any (Rows.unpackedSpec.pre6 enc Try.prog Try.f3 Rows.unpackedRow.domain false) (Rows.unpackedSpec.post enc Try.prog Try.f3 false true false false) := by
  refine returnsInHanded_of_change (C := Try.checked) own started (by kernel_rfl) Try.func3
    (ChangeSpec.witness6 (enc := enc) (C := Try.checked) false ⟨#[], #[.int .i64 0, .slice none 0 0], []⟩ 8 (by kernel_rfl) (by kernel_rfl) (by kernel_rfl) (by kernel_rfl)) ?_
  intro W base args ds gs before hval0 hW hcnd _
  have hval : ∀ (j : Nat) t v, Try.f3.params[j]? = some t → args[j]? = some v → Value.okWide Try.prog W .any base t v := hval0
  have hW' := hW
  obtain ⟨p, q, hA0, hV, rfl, hfz, hnd⟩ := hW
  have hA : DataW.TrodAll enc Try.prog W 0 (fun _ => true) true Try.f3.params.toList args.toList ds p := hA0
  rw [Try.params3] at hA hval
  obtain ⟨v0, vs0, d0, ds0, p0, q0, hargs, rfl, rfl, h0, r0⟩ := trodAll_cons hA
  obtain ⟨v1, vs1, d1, ds1, p1, q1, rfl, rfl, rfl, h1, r1⟩ := trodAll_cons r0
  obtain ⟨rfl, rfl, rfl⟩ := trodAll_nil r1
  obtain rfl : args = #[v0, v1] := by cases args; simp_all
  obtain ⟨rfl, rfl⟩ := trodVars_none hV
  obtain ⟨a0, rfl, rfl, rfl, w0⟩ := open_int Try.underlying3 (hval 0 3 v0 rfl rfl) h0
  obtain ⟨a1, len1, cap1, rfl⟩ := okWide_slice Try.underlying22 (hval 1 22 v1 rfl rfl)
  have k1 := h1
  have lt1 : ∀ x ∈ p1, x.block < W.heap.size := by obtain ⟨m, hm⟩ := k1; exact DataW.trod_lt m _ _ _ hm
  obtain ⟨z1, w1⟩ : ∃ zs, IsRow .u8 W a1 len1 cap1 zs := by
    obtain ⟨fuel, hf⟩ := h1
    rcases open_ints Try.underlying22 Try.underlying5 (by kernel_rfl) hf with ⟨hcs, _⟩ | ⟨x, l, c, zs, hcs, _, hl, hm, hz, _, hcell, hwz⟩
    · simp [Value.cells] at hcs
      obtain ⟨rfl, rfl, rfl⟩ := hcs
      exact ⟨[], .inl ⟨rfl, rfl, rfl, rfl⟩⟩
    · simp [Value.cells] at hcs
      obtain ⟨rfl, rfl, rfl⟩ := hcs
      exact ⟨zs, .inr ⟨_, rfl, hl, hm, by simpa using hz, hcell, hwz⟩⟩
  clear hA0 hval0
  refine (walk a0 a1 len1 cap1 z1 W w0 w1).mono fun e W' ⟨he, bel⟩ => ?_
  subst he
  exact ⟨_, rfl, _, _, _, [], _, [], hW', trodAll_mk1 (shut_bool Try.underlying4 _), (trodAll_cons_mk (shut_int Try.underlying3 w0) (trodAll_cons_mk (Below.trod laidOut (by kernel_rfl) (of_decide_eq_true (by kernel_rfl)) k1 bel lt1) trodAll_mk0)), rfl, bel.frame _, fun h => by cases h⟩

theorem over : Rows.unpackedRow.holds Try.pinned (OpenSpec.ofChange Rows.unpackedSpec) :=
  OpenClaim.holds_of_wide 3 Try.f3 rfl rfl rfl rfl rfl rfl rfl ⟨rfl, rfl, rfl, rfl, rfl⟩ rfl rfl rfl rfl rfl (by kernel_rfl) Try.func3 (by kernel_rfl)
    (of_decide_eq_true (by kernel_rfl)) (by unfold Func.isWrapper; first | (rw [if_pos (by decide +kernel)]; kernel_rfl) | (rw [if_neg (by decide +kernel)]; exact ⟨rfl, rfl⟩))
    (fun os started H enc _ => lifted os started H enc)

end Go.Proofs.Ytoijpogadkogcaa.unpacked
namespace Go.Proofs.Ytoijpogadkogcaa
/-- The given statement. -/
theorem unpacked_holds : Rows.UnpackedSaid := unpacked.over
#print axioms unpacked_holds
end Go.Proofs.Ytoijpogadkogcaa
