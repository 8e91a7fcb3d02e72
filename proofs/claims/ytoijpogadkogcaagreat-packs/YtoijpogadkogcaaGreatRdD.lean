/-
  The document's own answer: what Unpack answers.
-/
import Derived.Test.YtoijpogadkogcaaGreatRdC
namespace Go.Proofs.YtoijpogadkogcaaGreat
open Go.RowKit
set_option maxRecDepth 100000

def rdPos (R : Nat) (w : World) : Nat := match w.cell? ⟨R, 1, none⟩ with
  | some (.int _ n) => n.toNat
  | _ => 0
theorem Rd.pos {w : World} {R : Nat} {v : Value} {n : Nat} {b : Bool} (h : Rd w R v n b) : rdPos R w = n := by
  unfold rdPos
  rw [h.cell1]
  simp
theorem Rd.grew {w w' : World} {R : Nat} {v u u' : Value} {n : Nat} {b : Bool} (h : Rd w R v n b) (g : Grew w u w' u') (hne : u.ownBlock ≠ some R) : Rd w' R v n b := (g.grown.block R h.lt (Ne.symm hne)).trans h
theorem owns_only {w w' : World} {R base : Nat} {e : TypeId} {size n : Nat} {v : Value} {xs : List Value} (h : w.ownsRow base e size v n xs) (k : Only R w w') (hb : R < base) : w'.ownsRow base e size v n xs := by
  refine h.kept k ?_
  cases hv : v.ownBlock with
  | none => exact .inl rfl
  | some g => exact .inr (fun e => by have := (h.lt g hv).1; injection e with e; omega)
theorem owns_ne {w : World} {R base : Nat} {e : TypeId} {size n : Nat} {v : Value} {xs : List Value} (h : w.ownsRow base e size v n xs) (hb : R < base) : v.ownBlock ≠ some R := fun e => by
  have := (h.lt R e).1
  omega

theorem decL_raw_none (m : List (List UInt8 × List UInt8)) (l : List UInt8) (hl : l ≠ []) (h : decRaw l = none) (x : Option (List (List UInt8 × List UInt8))) (hx : x = (decL (8 - m.length) l).map (m ++ ·)) (hm : m.length ≤ 8) : x = none := by
  cases l with
  | nil => exact absurd rfl hl
  | cons c r => exact decL_none m c r (.inl (by unfold decH; rw [h])) x hx hm
theorem decL_raw_some (m : List (List UInt8 × List UInt8)) (l rest : List UInt8) (p : List UInt8 × List UInt8) (hl : l ≠ []) (h : decRaw l = some (p, rest)) (x : Option (List (List UInt8 × List UInt8))) (hx : x = (decL (8 - m.length) l).map (m ++ ·)) (hm : m.length ≤ 8) :
    ((okPair p = false ∨ m.length = 8) → x = none) ∧ (okPair p = true → m.length < 8 → x = (decL (8 - (m ++ [p]).length) rest).map ((m ++ [p]) ++ ·)) := by
  cases l with
  | nil => exact absurd rfl hl
  | cons c r =>
    constructor
    · rintro (h1 | h1)
      · exact decL_none m c r (.inl (by unfold decH; rw [h]; simp only; rw [if_neg (by rw [h1]; simp)])) x hx hm
      · exact decL_none m c r (.inr h1) x hx hm
    · intro h1 h2
      exact decL_step m c r rest p (by unfold decH; rw [h]; simp only; rw [if_pos h1]) x hx h2

theorem decRaw_small (l rest : List UInt8) (p : List UInt8 × List UInt8) (hl : l.length ≤ 1000) (h : decRaw l = some (p, rest)) : p.1.length ≤ 100000 ∧ p.2.length ≤ 100000 := by
  have tl : ∀ (z t r : List UInt8), z.length ≤ 1000 → decT z = some (t, r) → t.length ≤ 100000 ∧ r.length ≤ 1000 := by
    intro z t r hz ht
    have h1 := decT_len _ _ _ ht
    have h2 := encT_len t
    split at h2 <;> omega
  cases l with
  | nil => simp [decRaw] at h
  | cons c r =>
    rw [List.length_cons] at hl
    simp only [decRaw] at h
    split at h
    · unfold decA at h
      split at h
      · cases h
      · rename_i q rs hq
        have := decE_small _ _ _ hq
        split at h
        · cases h
        · simp only [Option.some.injEq, Prod.mk.injEq] at h
          obtain ⟨rfl, rfl⟩ := h
          omega
    · split at h
      · unfold decB at h
        split at h
        · cases h
        · rename_i q rs hq
          have h3 := decE_small _ _ _ hq
          obtain ⟨n, _, _, _, hx⟩ := decE_of _ _ _ hq
          have h4 := hx 0
          rw [List.length_cons] at h4
          split at h
          · cases h
          · rename_i v rs' hv
            simp only [Option.some.injEq, Prod.mk.injEq] at h
            obtain ⟨rfl, rfl⟩ := h
            exact ⟨by show q.1.length ≤ _; omega, (tl _ _ _ (by omega) hv).1⟩
      · split at h
        · unfold decC at h
          split at h
          · cases h
          · rename_i n rs hn
            have h3 := tl _ _ _ (by omega) hn
            split at h
            · cases h
            · rename_i v rs' hv
              simp only [Option.some.injEq, Prod.mk.injEq] at h
              obtain ⟨rfl, rfl⟩ := h
              exact ⟨h3.1, (tl _ _ _ h3.2 hv).1⟩
        · cases h

set_option maxHeartbeats 12800000 in
theorem rUnpack_any (v : Value) (l0 : List UInt8) (w : World) (h : IsBytes w v l0) :
    Calls Tryz.prog 108 #[v] w fun e w' => Ext w w' ∧ ((∃ m v', unpacks l0 = some m ∧ e = .returned (.tuple #[v', .int .i64 0]) ∧ w'.ownsRow w.heap.size 122 2 v' m.length (pcells m)) ∨ (unpacks l0 = none ∧ e = .returned (.tuple #[.slice none 0 0, .int .i64 3]))) := by
  obtain ⟨i0, hi, hz0, hz1, hz2⟩ := info_parts Tryz.infoPair
  have HB := hide h
  obtain ⟨a, cap, rfl, hc1, hc2, hcell⟩ := h
  clear hcell
  unfold maxLen at hc2
  by_cases h1 : 1 ≤ l0.length
  · by_cases h8 : l0.length ≤ 1000
    · have HU : Hid (unpacks l0 = (decL (8 - ([] : List (List UInt8 × List UInt8)).length) (l0.drop 0)).map (([] : List (List UInt8 × List UInt8)) ++ ·)) := by
        show unpacks l0 = _
        unfold unpacks
        rw [if_neg (by omega)]
        show decL 8 l0 = (decL 8 (l0.drop 0)).map _
        rw [List.drop_zero]
        cases decL 8 l0 <;> simp [*]
      generalize unpacks l0 = U at HU ⊢
      have hne0 : ((l0.length : Int) == 0) = false := by rw [beq_eq_false_iff_ne]; omega
      have hE1 := (Ext.refl w).alloc (.cells #[.slice a l0.length cap, .int .i64 0, .bool false] 184)
      have hrd1 : Rd (w.alloc (.cells #[.slice a l0.length cap, .int .i64 0, .bool false] 184)) w.heap.size (.slice a l0.length cap) 0 false := heap_alloc_new w _
      have hsz1 : (w.alloc (.cells #[.slice a l0.length cap, .int .i64 0, .bool false] 184)).heap.size = w.heap.size + 1 := by simp
      go_enter Tryz.func108, Tryz.ntmps108
      go_wp2_with fail
      generalize w.alloc (.cells #[.slice a l0.length cap, .int .i64 0, .bool false] 184) = w1 at hE1 hrd1 hsz1 ⊢
      have HSZ := hide hsz1
      clear hsz1
      go_loopw [5] (fun hs wr => ∃ (m : List (List UInt8 × List UInt8)) (k : Nat), k ≤ l0.length ∧ Rd wr w.heap.size (.slice a l0.length cap) k false ∧ wr.ownsRow (w.heap.size + 1) 122 2 hs m.length (pcells m) ∧ m.length ≤ 8 ∧ Ext w wr ∧ Hid (U = (decL (8 - m.length) (l0.drop k)).map (m ++ ·))) (fun _ wr => l0.length - rdPos w.heap.size wr)
      case atStart => exact ⟨[], 0, by omega, hrd1, World.ownsRow_nil _ _ _ _, by simp, hE1, HU⟩
      case round =>
        clear hE1 hrd1
        obtain ⟨m, k, hk, hrd, hown, hm, hE, HUr⟩ := hrel
        have HRD := hide hrd
        have HRP := hide hrd.pos
        have hc1' := hrd.cell1
        obtain ⟨a5, cap5, hu5, hu51, hu52, _⟩ := owns_slice hown
        unfold maxLen at hu52
        subst hu5
        by_cases hlt : k < l0.length
        · have hkl : (k : Int) < (l0.length : Int) := by omega
          have hnil : l0.drop k ≠ [] := by intro e; have := congrArg List.length e; rw [List.length_drop, List.length_nil] at this; omega
          go_wp2_with fail
          refine (mOne_any w.heap.size _ l0 k w wr hE (Nat.le_refl _) HB.out h8 hlt hrd).mono ?_
          rintro e w2 (⟨p, rest, hd, rfl, hO, kk, hkk, hrest, hrd2⟩ | ⟨hd, x, y, hsx, hsy, rfl, hO, kk, hkk, hrd2⟩)
          · obtain ⟨hUn, hUs⟩ := decL_raw_some m _ rest p hnil hd U HUr.out hm
            have hpl : p.1.length ≤ 100000 ∧ p.2.length ≤ 100000 := decRaw_small _ _ _ (by rw [List.length_drop]; omega) hd
            have hrl : rest.length < l0.length - k := by
              have h2 := decRaw_len _ _ _ hd
              have h3 := encH_pos p
              rw [List.length_drop] at h2
              omega
            have hrl2 : rest.length = l0.length - kk := by rw [hrest, List.length_drop]
            obtain ⟨x, hx⟩ : ∃ x : ByteArray, x = ⟨p.1.toArray⟩ := ⟨_, rfl⟩
            obtain ⟨y, hy⟩ : ∃ y : ByteArray, y = ⟨p.2.toArray⟩ := ⟨_, rfl⟩
            rw [← hx, ← hy]
            have HO : Hid (pairOf x y = p ∧ x.size = p.1.length ∧ y.size = p.2.length) := by
              subst hx hy
              exact ⟨rfl, rfl, rfl⟩
            clear hx hy
            have hE2 := Ext.only hE hO (Nat.le_refl _)
            have hEb := hE2.alloc (.cells #[.string x, .string y] 122)
            have hrd3 := hrd2.ext ((Ext.refl w2).alloc (.cells #[.string x, .string y] 122))
            have hown3 := (owns_only hown hO (by omega)).alloc (.cells #[.string x, .string y] 122)
            have hx0 := cell_box0 w2 (.string x) (.string y) 122
            have hx1 := cell_box1 w2 (.string x) (.string y) 122
            clear hc1' hd hrd hown hO hnil hrd2 HUr HRD
            go_wp2_with fail
            refine (rFits_any x y _ (by rw [HO.out.2.1]; unfold maxLen; omega) (by rw [HO.out.2.2]; unfold maxLen; omega)).mono ?_
            rintro e w3 ⟨rfl, hE3⟩
            rw [HO.out.1]
            have hrd3' := hrd3.ext hE3
            have hEw := hEb.trans hE3
            have hc2' := hrd3'.cell2
            have hx0' := hE3.cell hx0
            have hx1' := hE3.cell hx1
            have hown3' := owns_ext hown3 hE3
            clear hx0 hx1 hrd3 hown3 hEb hE3
            cases hok : okPair p
            · have HUn : Hid (U = none) := hUn (.inl hok)
              clear hUn hUs hok
              go_wp2
              go_ret2
              exact ⟨hEw, .inr ⟨HUn.out, rfl⟩⟩
            · by_cases hfull : m.length = 8
              · have HUn : Hid (U = none) := hUn (.inr hfull)
                have hf8 : (8 : Int) ≤ (m.length : Int) := by omega
                clear hUn hUs hok hfull
                go_wp2
                go_ret2
                exact ⟨hEw, .inr ⟨HUn.out, rfl⟩⟩
              · have hm8 : m.length < 8 := by omega
                have HUs := hide (hUs hok hm8)
                have hf8 : ¬ (8 : Int) ≤ (m.length : Int) := by omega
                clear hUn hUs hok hfull
                have hsrc := src_pair (P := Tryz.prog) w3 122 Tryz.underlying43 x y
                have hneR := owns_ne (R := w.heap.size) (hown3'.alloc (.cells #[.string x, .string y] 122)) (by omega)
                have hrd4 := hrd3'.ext ((Ext.refl w3).alloc (.cells #[.string x, .string y] 122))
                have hszb : w.heap.size + 1 ≤ w3.heap.size := hrd3'.lt
                go_wp2_with (at_builtin; refine wpList_append_src _ rfl (.tmp 43) (.tmp 45) 43 43 rfl (w.heap.size + 1) 122 i0 (.agg #[.string ⟨#[]⟩, .string ⟨#[]⟩]) 2 32 Tryz.underlying43 hi hz0 hz1 hz2 rfl (by decide) _ _ _ rfl (hown3'.alloc _) _ 1 [.string x, .string y] rfl hsrc ?_ ?_ ?_ ?_)
                · unfold maxLen; omega
                · omega
                · simp; omega
                · intro v4 w4 hown4 hgrew4
                  have hE4 : Ext w w4 := Ext.trans' (hEw.alloc _) hgrew4 (hown3'.alloc _) (by omega)
                  have hrd5 := hrd4.grew hgrew4 hneR
                  have hown5 : w4.ownsRow (w.heap.size + 1) 122 2 v4 (m ++ [p]).length (pcells (m ++ [p])) := owns_len hown4 (by simp) (by rw [pcells_append, ← HO.out.1]; rfl)
                  clear hgrew4 hown4 hneR hrd4 hrd3' hown3' hx0' hx1' hsrc hc2'
                  go_wp2
                  go_roundw
                  case rel => exact ⟨m ++ [p], kk, hkk, hrd5, hown5, by simp; omega, hE4, by rw [hrest] at HUs; exact HUs⟩
                  case measure => rw [hrd5.pos, HRP.out]; omega
          · have HUn : Hid (U = none) := decL_raw_none m _ hnil hd U HUr.out hm
            have hE2 := Ext.only hE hO (Nat.le_refl _)
            have hEb := hE2.alloc (.cells #[.string x, .string y] 122)
            have hrd3 := hrd2.ext ((Ext.refl w2).alloc (.cells #[.string x, .string y] 122))
            have hx0 := cell_box0 w2 (.string x) (.string y) 122
            have hx1 := cell_box1 w2 (.string x) (.string y) 122
            clear hc1' hd hrd hown hO hnil hrd2
            go_wp2_with fail
            refine (rFits_any x y _ (by unfold maxLen; omega) (by unfold maxLen; omega)).mono ?_
            rintro e w3 ⟨rfl, hE3⟩
            have hrd3 := hrd3.ext hE3
            have hEw := hEb.trans hE3
            have hc2' := hrd3.cell2
            generalize okPair (pairOf x y) = ok
            go_wp2
            go_ret2
            exact ⟨hEw, .inr ⟨HUn.out, rfl⟩⟩
        · have hk' : ¬ (k : Int) < (l0.length : Int) := by omega
          have HUe : Hid (U = some m) := by
            show U = _
            rw [HUr.out, List.drop_of_length_le (by omega)]
            cases 8 - m.length <;> simp [decL]
          clear hrd
          go_wp2
          go_ret2
          exact ⟨hE, .inl ⟨m, HUe.out, _, rfl, owns_mono hown (by omega)⟩⟩
    · go_enter Tryz.func108, Tryz.ntmps108
      go_wp2
      go_ret2
      exact ⟨Ext.refl _, .inr ⟨by unfold unpacks; rw [if_pos (by omega)], rfl⟩⟩
  · have hz : ((l0.length : Int) == 0) = true := beq_iff_eq.2 (by omega)
    have hz' : l0.length ≤ 1000 := by omega
    go_enter Tryz.func108, Tryz.ntmps108
    go_wp2
    go_ret2
    exact ⟨Ext.refl _, .inr ⟨by unfold unpacks; rw [if_pos (by omega)], rfl⟩⟩
end Go.Proofs.YtoijpogadkogcaaGreat
