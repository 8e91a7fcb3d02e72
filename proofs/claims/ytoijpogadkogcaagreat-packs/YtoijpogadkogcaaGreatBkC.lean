/-
  The book: what is written into a list of headers.
-/
import Derived.Test.YtoijpogadkogcaaGreatBkB
namespace Go.Proofs.YtoijpogadkogcaaGreat
open Go.RowKit
set_option maxRecDepth 100000

/-- The digits of a number, the lowest first. -/
def digs : Nat → Nat → List UInt8
  | 0, _ => []
  | f + 1, i => UInt8.ofNat (48 + i % 10) :: (if i / 10 = 0 then [] else digs f (i / 10))
def paperL (i : Nat) : List UInt8 := [77, 73, 78, 69] ++ digs (i + 1) i
def paperS (i : Nat) : ByteArray := ⟨(paperL i).toArray⟩

theorem digit_at (d : Nat) (h : d < 10) : ((⟨#[48, 49, 50, 51, 52, 53, 54, 55, 56, 57]⟩ : ByteArray).extract d (d + 1)).data.toList = [UInt8.ofNat (48 + d)] := by
  have : ∀ k : Fin 10, ((⟨#[48, 49, 50, 51, 52, 53, 54, 55, 56, 57]⟩ : ByteArray).extract k.val (k.val + 1)).data.toList = [UInt8.ofNat (48 + k.val)] := by decide +kernel
  exact this ⟨d, h⟩

theorem ba_append_list (a b : ByteArray) : (a ++ b).data.toList = a.data.toList ++ b.data.toList := by simp
theorem ba_size (b : ByteArray) : b.size = b.data.toList.length := rfl
theorem ba_ext {a b : ByteArray} (h : a.data.toList = b.data.toList) : a = b := by
  cases a; cases b; congr 1; exact Array.toList_inj.1 h

set_option maxHeartbeats 3200000 in
theorem paper_any (i : Nat) (w : World) (hi : i ≤ 4398046511104) : Calls Tryz.prog 125 #[.int .i64 (i : Int)] w fun e w' => e = .returned (.agg #[.string (paperS i), .string ⟨#[]⟩]) ∧ Ext w w' := by
  have hE := (Ext.refl w).alloc (.cells #[.string ⟨#[]⟩, .string ⟨#[]⟩] 122)
  have hbox := Box.new w ⟨#[]⟩ ⟨#[]⟩
  have HB := hide hbox
  have HEE := hide hE
  have hx0 := hbox.cell0
  have hx1 := hbox.cell1
  have hf0 := hbox.free0
  have hf1 := hbox.free1
  clear hbox hE
  go_enter Tryz.func125, Tryz.ntmps125
  go_wp2_with fail
  generalize w.alloc (.cells #[.string ⟨#[]⟩, .string ⟨#[]⟩] 122) = W at HB HEE hx0 hx1 hf0 hf1 ⊢
  go_loop [0, 3] (fun j s => ∃ (k f : Nat) (sb : ByteArray), j = .int .i64 k ∧ s = .string sb ∧ k < f ∧ k ≤ i ∧ sb.size + k ≤ 4 + i + 1 ∧ Hid (paperL i = sb.data.toList ++ digs f k)) (fun j _ => (intOf j).toNat)
  case atStart => exact ⟨i, i + 1, _, rfl, rfl, by omega, by omega, by simp [ByteArray.size], rfl⟩
  case round =>
    obtain ⟨k, f, sb, rfl, rfl, hf, hki, hsz, HD⟩ := hrel
    obtain ⟨d, hd⟩ : ∃ d, d = k % 10 := ⟨_, rfl⟩
    obtain ⟨q, hq⟩ : ∃ q, q = k / 10 := ⟨_, rfl⟩
    have e1 : ((k : Int) % 10) = (d : Int) := by omega
    have e2 : ((k : Int) / 10) = (q : Int) := by omega
    have hd10 : d < 10 := by omega
    obtain ⟨f', rfl⟩ : ∃ f', f = f' + 1 := ⟨f - 1, by omega⟩
    have HX := hide (digit_at d hd10)
    have HG : Hid (digs (f' + 1) k = UInt8.ofNat (48 + d) :: (if q = 0 then [] else digs f' q)) := by show digs (f' + 1) k = _; rw [hd, hq]; rfl
    have hqk : 0 < k → q < k := by omega
    have hqf : q ≠ 0 → q < f' := by omega
    have HQK := hide hqk
    have HQF := hide hqf
    have hqi : q ≤ i := by omega
    have hq9 : q * 9 ≤ k := by omega
    clear hd hq hqk hqf
    by_cases hq0 : q = 0
    · have hqz : ((q : Int) == 0) = true := beq_iff_eq.2 (by omega)
      have HQ0 := hide hq0
      clear hq0
      go_wp2
      have hsb : sb ++ (⟨#[48, 49, 50, 51, 52, 53, 54, 55, 56, 57]⟩ : ByteArray).extract d (d + 1) = paperS i := by
        apply ba_ext
        show _ = paperL i
        rw [HD.out, HG.out, if_pos HQ0.out, ba_append_list, HX.out]
      rw [hsb]
      have hr0 : ((W.setCell ⟨w.heap.size, 0, none⟩ (.string (paperS i))).setCell ⟨w.heap.size, 1, none⟩ (.string ⟨#[]⟩)).cell? ⟨w.heap.size, 0, none⟩ = some (.string (paperS i)) := ((HB.out.set0 _).set1 _).cell0
      have hr1 : ((W.setCell ⟨w.heap.size, 0, none⟩ (.string (paperS i))).setCell ⟨w.heap.size, 1, none⟩ (.string ⟨#[]⟩)).cell? ⟨w.heap.size, 1, none⟩ = some (.string ⟨#[]⟩) := ((HB.out.set0 _).set1 _).cell1
      have HEZ := hide ((HEE.out.setCell (p := ⟨w.heap.size, 0, none⟩) (Nat.le_refl _) (.string (paperS i))).setCell (p := ⟨w.heap.size, 1, none⟩) (Nat.le_refl _) (.string ⟨#[]⟩))
      generalize (W.setCell ⟨w.heap.size, 0, none⟩ (.string (paperS i))).setCell ⟨w.heap.size, 1, none⟩ (.string ⟨#[]⟩) = Z at hr0 hr1 HEZ ⊢
      generalize paperS i = X at hr0 ⊢
      clear hsb HX
      generalize (⟨#[48, 49, 50, 51, 52, 53, 54, 55, 56, 57]⟩ : ByteArray).extract d (d + 1) = ex
      refine bodyPost_ret (v := .agg #[.string X, .string ⟨#[]⟩]) ?_ rfl ⟨rfl, HEZ.out⟩
      simp [results, Tryz.results125, go_sem, hr0, hr1]
    · have hqz : ((q : Int) == 0) = false := by rw [beq_eq_false_iff_ne]; omega
      have HQ0 := hide hq0
      clear hq0
      have hk0 : 0 < k := by have h1 := HQ0.out; have h2 := hq9; omega
      have hqk' := HQK.out hk0
      have hqf' := HQF.out HQ0.out
      have hsz2 : (sb ++ (⟨#[48, 49, 50, 51, 52, 53, 54, 55, 56, 57]⟩ : ByteArray).extract d (d + 1)).size = sb.size + 1 := by
        rw [ba_size, ba_append_list, HX.out, ba_size, List.length_append]
        rfl
      have HSZ := hide hsz2
      have HD2 : Hid (paperL i = (sb ++ (⟨#[48, 49, 50, 51, 52, 53, 54, 55, 56, 57]⟩ : ByteArray).extract d (d + 1)).data.toList ++ digs f' q) := by
        show _ = _
        rw [HD.out, HG.out, if_neg HQ0.out, ba_append_list, HX.out]
        simp
      clear hsz2
      go_wp2
      go_round
      case rel => exact ⟨q, f', _, rfl, rfl, hqf', hqi, by rw [HSZ.out]; omega, HD2⟩
      case measure => simp [intOf]; omega
end Go.Proofs.YtoijpogadkogcaaGreat
