/-
  What Unpack answers: the headers that bytes are, else that they are none.
-/
import Derived.Test.YtoijpogadkogcaaGreatHead
namespace Go.Proofs.YtoijpogadkogcaaGreat
open Go.RowKit
set_option maxRecDepth 100000

theorem Tryz.infoPair : (Tryz.prog.info? 122).map (fun i => (i.zero, i.size, i.bytes)) = some (some (.agg #[.string ⟨#[]⟩, .string ⟨#[]⟩]), 2, 32) := by kernel_rfl

/-- What Unpack answers. -/
def unpacks (l : List UInt8) : Option (List (List UInt8 × List UInt8)) := if l.length < 1 ∨ 1000 < l.length then none else decL 8 l

def sliceLen : Value → Nat
  | .slice _ n _ => n
  | _ => 0

theorem IsBytes.len {w : World} {v : Value} {l : List UInt8} (h : IsBytes w v l) : sliceLen v = l.length := by
  obtain ⟨a, cap, rfl, _⟩ := h
  rfl

/-- A step of the loop: none, or one header more. -/
theorem decL_none (m : List (List UInt8 × List UInt8)) (c : UInt8) (r : List UInt8) (h : decH (c :: r) = none ∨ m.length = 8) (x : Option (List (List UInt8 × List UInt8))) (hx : x = (decL (8 - m.length) (c :: r)).map (m ++ ·)) (hm : m.length ≤ 8) : x = none := by
  subst hx
  by_cases h8 : m.length = 8
  · rw [show 8 - m.length = 0 by omega]; rfl
  · rw [show 8 - m.length = 8 - m.length - 1 + 1 by omega]
    rcases h with h | h
    · simp only [decL, h]; rfl
    · exact absurd h h8
theorem decL_step (m : List (List UInt8 × List UInt8)) (c : UInt8) (r rest : List UInt8) (p : List UInt8 × List UInt8) (h : decH (c :: r) = some (p, rest)) (x : Option (List (List UInt8 × List UInt8))) (hx : x = (decL (8 - m.length) (c :: r)).map (m ++ ·)) (hm : m.length < 8) : x = (decL (8 - (m ++ [p]).length) rest).map ((m ++ [p]) ++ ·) := by
  subst hx
  have e : 8 - m.length = 8 - (m ++ [p]).length + 1 := by simp; omega
  rw [e]
  simp only [decL, h]
  cases decL (8 - (m ++ [p]).length) rest with
  | none => rfl
  | some y => simp

set_option maxHeartbeats 3200000 in
theorem unpack_any (v : Value) (l0 : List UInt8) (w : World) (h : IsBytes w v l0) :
    Calls Tryz.prog 147 #[v] w fun e w' => Ext w w' ∧ ((∃ m v', unpacks l0 = some m ∧ e = .returned (.tuple #[v', .int .i64 0]) ∧ w'.ownsRow w.heap.size 122 2 v' m.length (pcells m)) ∨ (unpacks l0 = none ∧ e = .returned (.tuple #[.slice none 0 0, .int .i64 3]))) := by
  obtain ⟨i0, hi, hz0, hz1, hz2⟩ := info_parts Tryz.infoPair
  have hb := h
  obtain ⟨a, cap, rfl, hc1, hc2, hcell⟩ := h
  clear hcell
  unfold maxLen at hc2
  by_cases h1 : 1 ≤ l0.length
  · by_cases h8 : l0.length ≤ 1000
    · have HU : Hid (unpacks l0 = (decL (8 - ([] : List (List UInt8 × List UInt8)).length) l0).map (([] : List (List UInt8 × List UInt8)) ++ ·)) := by
        show unpacks l0 = _
        unfold unpacks
        rw [if_neg (by omega)]
        cases decL 8 l0 <;> simp [*]
      generalize unpacks l0 = U at HU ⊢
      go_enter Tryz.func147, Tryz.ntmps147
      go_wp2_with fail
      refine (table_any w).mono ?_
      rintro e w1 ⟨vt, rfl, ht1, hE1⟩
      go_wp2_with fail
      go_loopw [0, 5] (fun b hs wr => ∃ l m, IsBytes w b l ∧ l.length ≤ 1000 ∧ wr.ownsRow w1.heap.size 122 2 hs m.length (pcells m) ∧ m.length ≤ 8 ∧ Ext w1 wr ∧ Hid (U = (decL (8 - m.length) l).map (m ++ ·))) (fun b _ _ => sliceLen b)
      case atStart => exact ⟨l0, [], hb, h8, World.ownsRow_nil _ _ _ _, by simp, Ext.refl _, HU⟩
      case round =>
        obtain ⟨l, m, hbr, hl, hown, hm, hEr, HUr⟩ := hrel
        have hlen := hbr.len
        have hbr' := hbr
        obtain ⟨a2, cap2, rfl, hd1, hd2, hd3⟩ := hbr
        clear hd3 hlen
        cases l with
        | nil =>
          go_wp2
          go_ret2
          refine ⟨hE1.trans hEr, .inl ⟨m, _, ?_, rfl, owns_mono hown hE1.size⟩⟩
          rw [HUr.out]
          cases 8 - m.length <;> simp [decL]
        | cons c r =>
          rw [List.length_cons] at *
          obtain ⟨a5, cap5, hu5, hu51, hu52, _⟩ := owns_slice hown
          unfold maxLen at hu52
          subst hu5
          go_wp2_with fail
          refine (cutHeader_any _ vt c r w wr (hE1.trans hEr) hbr' (by omega) (ht1.ext hEr)).mono ?_
          rintro e w2 ⟨hE2, ⟨p, rest, v2, hd, rfl, hB2⟩ | ⟨hd, rfl⟩⟩
          · have hE12 := hEr.trans hE2
            have hown2 := owns_ext hown hE2
            by_cases hfull : m.length = 8
            · have HUn : Hid (U = none) := decL_none m c r (.inr hfull) U HUr.out hm
              have hf8 : (((m.length : Nat) : Int) == 8) = true := by simp; omega
              clear hd HUr hfull hown2 hown
              go_wp2
              go_ret2
              exact ⟨hE1.trans (hE12.alloc _), .inr ⟨HUn.out, rfl⟩⟩
            · have HUs := hide (decL_step m c r rest p hd U HUr.out (by omega))
              have hrl : rest.length < r.length + 1 := by have h1 := decH_len _ _ _ hd; have h2 := encH_pos p; rw [List.length_cons] at h1; omega
              have hf8 : (((m.length : Nat) : Int) == 8) = false := by simp; omega
              have hm8 : m.length < 8 := by omega
              clear hd HUr hfull hown
              have hx0 := (cell_box0 w2 (.string ⟨p.1.toArray⟩) (.string ⟨p.2.toArray⟩) 122)
              have hx1 := (cell_box1 w2 (.string ⟨p.1.toArray⟩) (.string ⟨p.2.toArray⟩) 122)
              have hownb := hown2.alloc (.cells #[.string ⟨p.1.toArray⟩, .string ⟨p.2.toArray⟩] 122)
              have hE1b := hE12.alloc (.cells #[.string ⟨p.1.toArray⟩, .string ⟨p.2.toArray⟩] 122)
              have hszb : w1.heap.size ≤ (w2.alloc (.cells #[.string ⟨p.1.toArray⟩, .string ⟨p.2.toArray⟩] 122)).heap.size := hE1b.size
              have hsrc : Src Tryz.prog 2 43 (.slice (some ⟨w2.heap.size + 1, 0, none⟩) 1 1) 1 [.string ⟨p.1.toArray⟩, .string ⟨p.2.toArray⟩] ((w2.alloc (.cells #[.string ⟨p.1.toArray⟩, .string ⟨p.2.toArray⟩] 122)).alloc (.cells #[.string ⟨p.1.toArray⟩, .string ⟨p.2.toArray⟩] 122)) := by
                have := src_pair (P := Tryz.prog) (w2.alloc (.cells #[.string ⟨p.1.toArray⟩, .string ⟨p.2.toArray⟩] 122)) 122 Tryz.underlying43 ⟨p.1.toArray⟩ ⟨p.2.toArray⟩
                rwa [show (w2.alloc (.cells #[.string ⟨p.1.toArray⟩, .string ⟨p.2.toArray⟩] 122)).heap.size = w2.heap.size + 1 by simp] at this
              go_wp2_with (at_builtin; refine wpList_append_src _ rfl (.tmp 35) (.tmp 37) 43 43 rfl w1.heap.size 122 i0 _ 2 32 Tryz.underlying43 hi hz0 hz1 hz2 rfl (by decide) _ _ _ rfl (hownb.alloc _) _ 1 [.string ⟨p.1.toArray⟩, .string ⟨p.2.toArray⟩] rfl hsrc ?_ ?_ ?_ ?_)
              · unfold maxLen; omega
              · omega
              · simp at hszb ⊢; omega
              · intro v3 w3 hown3 hgrew3
                have hE3 : Ext w1 w3 := Ext.trans' (hE1b.alloc _) hgrew3 (hownb.alloc _)
                have hown3 : w3.ownsRow w1.heap.size 122 2 v3 (m ++ [p]).length (pcells (m ++ [p])) := owns_len hown3 (by simp) (by rw [pcells_append]; rfl)
                have hl2 := hB2.len
                clear hgrew3 hownb hown2 hx0 hx1 hE1b
                go_wp2
                go_roundw
                case rel => exact ⟨rest, m ++ [p], hB2, by omega, hown3, by simp; omega, hE3, HUs⟩
                case measure => rw [hl2]; exact hrl
          · have HUn : Hid (U = none) := decL_none m c r (.inl hd) U HUr.out hm
            have hE12 := hEr.trans hE2
            clear hd HUr hown
            go_wp2
            go_ret2
            exact ⟨hE1.trans (hE12.alloc _), .inr ⟨HUn.out, rfl⟩⟩
    · go_enter Tryz.func147, Tryz.ntmps147
      go_wp2
      go_ret2
      exact ⟨Ext.refl _, .inr ⟨by unfold unpacks; rw [if_pos (by omega)], rfl⟩⟩
  · go_enter Tryz.func147, Tryz.ntmps147
    go_wp2
    go_ret2
    exact ⟨Ext.refl _, .inr ⟨by unfold unpacks; rw [if_pos (by omega)], rfl⟩⟩
end Go.Proofs.YtoijpogadkogcaaGreat
