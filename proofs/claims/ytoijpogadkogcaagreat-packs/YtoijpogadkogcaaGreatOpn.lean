/-
  A script that is handed in, opened: its steps, the bytes and the headers of each, and how long they may be.
-/
import Derived.Test.YtoijpogadkogcaaGreatPlb
import Derived.ProofKit
import Derived.OpenShut
import Derived.ShutString
import Derived.ChangeOld
import Derived.Below
import Derived.Carry
import Derived.SizedLaws
import Derived.Deep.Slices
namespace Go.Proofs.YtoijpogadkogcaaGreat
open Go.ChangeShapes Go.WideShapes Go.ChangeAt Go.RowKit Go.Deep
set_option maxRecDepth 100000

section
variable {H : Type} {enc : TypeId × Value → H} {w : World} {base : Nat} {held : Bool}

theorem open_bytes {fuel : Nat} {cs : List Value} {x : DataW H × List MemPlace} (h : DataW.trod enc Tryz.prog w base (fun _ => true) held fuel 34 cs = some x) :
    ∃ a l cap, cs = [.slice a l.length cap] ∧ IsBytes w (.slice a l.length cap) l ∧ ((x.1.weights Tryz.prog 34).all (· ≤ reachBytes) = true → l.length ≤ 140737488351232) := by
  rcases open_ints Tryz.underlying34 Tryz.underlying5 (by kernel_rfl) h with ⟨rfl, rfl⟩ | ⟨x, len, cap, zs, rfl, _, h1, h2, h3, rfl, hc, hw⟩
  · exact ⟨none, [], 0, rfl, IsBytes.nil w, fun _ => by simp⟩
  · simp only [if_true] at h3
    have hll : ((zs.take len).map fun n => UInt8.ofNat n.toNat).length = len := by rw [List.length_map, List.length_take]; omega
    refine ⟨some x, (zs.take len).map fun n => UInt8.ofNat n.toNat, cap, by rw [hll], ?_, fun hsz => ?_⟩
    · refine ⟨some x, cap, rfl, by omega, h2, ?_⟩
      by_cases h0 : len = 0
      · left; subst h0; simp
      · right
        obtain ⟨b, o, sp⟩ := x
        have hz := hc 0 (by omega)
        have hsp : sp = none := by simpa [Addr.add] using World.cell?_spot hz
        subst hsp
        refine ⟨b, o, rfl, fun i hi => ?_⟩
        rw [hll] at hi
        have hi' := hc i (by omega)
        have hm : zs.getD i 0 ∈ zs := by rw [List.getD_eq_getElem?_getD, List.getElem?_eq_getElem (by omega)]; exact List.getElem_mem _
        have hb := bounds_u8 (hw _ hm)
        have e : (((zs.take len).map fun n => UInt8.ofNat n.toNat).getD i 0).toNat = (zs.getD i 0).toNat := by
          rw [List.getD_eq_getElem?_getD, List.getElem?_map, List.getElem?_take_of_lt hi, List.getElem?_eq_getElem (by omega)]
          rw [List.getD_eq_getElem?_getD, List.getElem?_eq_getElem (by omega)] at hb ⊢
          simp only [Option.map_some, Option.getD_some] at hb ⊢
          rw [UInt8.toNat_ofNat']
          omega
        rw [e, Int.toNat_of_nonneg hb.1, ← hi', Addr.add_lit]
    · have hb1 : Tryz.prog.bytesOf 5 = 1 := by kernel_rfl
      have := List.all_eq_true.1 hsz (((lits .u8 (zs.take len)).length + (lits .u8 (zs.drop len)).length) * Tryz.prog.bytesOf 5) (by simp only [DataW.weights, Tryz.underlying34]; exact List.mem_cons_self)
      simp only [hb1, lits, List.length_map, List.length_take, List.length_drop, decide_eq_true_eq, reachBytes] at this
      rw [hll]
      omega

theorem cells_two {a : Addr} {cs : List Value} (h : w.cells? base a 2 = some cs) : ∃ x y, cs = [x, y] ∧ w.cell? a = some x ∧ w.cell? (a.add 1) = some y := by
  obtain ⟨_, h1, h2⟩ := World.cells?_some h
  match cs, h1 with
  | [x, y], _ =>
    have e0 := h2 0 (by decide)
    have e1 := h2 1 (by decide)
    simp [Addr.add] at e0 e1
    exact ⟨x, y, rfl, e0, by simpa [Addr.add] using e1⟩

theorem open_pair {fuel : Nat} {cs : List Value} {x : DataW H × List MemPlace} (h : DataW.trod enc Tryz.prog w base (fun _ => true) held fuel 122 cs = some x) :
    ∃ p : List UInt8 × List UInt8, cs = [.string ⟨p.1.toArray⟩, .string ⟨p.2.toArray⟩] ∧ p.1.length ≤ maxLen ∧ p.2.length ≤ maxLen := by
  obtain ⟨y0, y1, n, _, hl, h0, h1⟩ := trod_struct2 Tryz.underlying122 h
  have hc : Tryz.prog.cellsOf 122 = 2 := by kernel_rfl
  have hs : Tryz.prog.cellsOf 9 = 1 := by kernel_rfl
  rw [hc] at hl
  match cs, hl with
  | [u, v], _ =>
    simp only [hs, List.drop_zero, List.drop_succ_cons, List.take_succ_cons, List.take_zero] at h0 h1
    obtain ⟨s, e0, _, z0⟩ := DataW.trod_string Tryz.underlying9 h0
    obtain ⟨t, e1, _, z1⟩ := DataW.trod_string Tryz.underlying9 h1
    simp only [List.cons.injEq, and_true] at e0 e1
    subst e0; subst e1
    exact ⟨(s.data.toList, t.data.toList), rfl, z0, z1⟩

theorem open_pairs {fuel : Nat} {cs : List Value} {x : DataW H × List MemPlace} (h : DataW.trod enc Tryz.prog w base (fun _ => true) held fuel 43 cs = some x) :
    ∃ a m cap, cs = [.slice a m.length cap] ∧ IsPairs w (.slice a m.length cap) m ∧ (∀ p ∈ m, p.1.length ≤ maxLen ∧ p.2.length ≤ maxLen) ∧ ((x.1.weights Tryz.prog 43).all (· ≤ reachBytes) = true → m.length ≤ 4398046510976) := by
  rcases open_slice Tryz.underlying43 h with ⟨rfl, rfl⟩ | ⟨a, len, cap, k, n, D, Pl, rfl, _, h1, h2, hk, rfl, hcell⟩
  · exact ⟨none, [], 0, rfl, ⟨none, 0, rfl, by simp, by simp [maxLen], .inl rfl⟩, by simp, fun _ => by simp⟩
  · simp only [if_true] at hk
    subst hk
    have hc : Tryz.prog.cellsOf 122 = 2 := by kernel_rfl
    have hone : ∀ i, i < k → ∃ p : List UInt8 × List UInt8, (w.cell? (a.add (i * 2)) = some (.string ⟨p.1.toArray⟩) ∧ w.cell? ((a.add (i * 2)).add 1) = some (.string ⟨p.2.toArray⟩)) ∧ p.1.length ≤ maxLen ∧ p.2.length ≤ maxLen := by
      intro i hi
      obtain ⟨cs', hcs, ht⟩ := hcell i hi
      rw [hc] at hcs
      obtain ⟨p, rfl, z0, z1⟩ := open_pair ht
      obtain ⟨u, v, e, c0, c1⟩ := cells_two hcs
      simp only [List.cons.injEq, and_true] at e
      obtain ⟨rfl, rfl⟩ := e
      exact ⟨p, ⟨c0, c1⟩, z0, z1⟩
    obtain ⟨f, hf⟩ := choose_lt hone
    have hll : ((List.range len).map f).length = len := by simp
    refine ⟨some a, (List.range len).map f, k, by rw [hll], ?_, ?_, fun hsz => ?_⟩
    · refine ⟨some a, k, rfl, by rw [hll]; exact h1, h2, ?_⟩
      by_cases h0 : len = 0
      · left; subst h0; simp
      · right
        obtain ⟨b, o, sp⟩ := a
        have hz := (hf 0 (by omega)).1.1
        have hsp : sp = none := by simpa [Addr.add] using World.cell?_spot hz
        subst hsp
        refine ⟨b, o, rfl, fun i hi => ?_⟩
        rw [hll] at hi
        have e : ((List.range len).map f).getD i ([], []) = f i := by
          rw [List.getD_eq_getElem?_getD, List.getElem?_map, List.getElem?_range hi]
          rfl
        rw [e]
        have := (hf i (by omega)).1
        rw [Addr.add_lit, Addr.add_lit] at this
        exact this
    · intro p hp
      simp only [List.mem_map, List.mem_range] at hp
      obtain ⟨i, hi, rfl⟩ := hp
      exact (hf i (by omega)).2
    · have hb1 : Tryz.prog.bytesOf 122 = 32 := by kernel_rfl
      have := List.all_eq_true.1 hsz ((((List.range len).map D).length + ((List.range (k - len)).map fun j => D (len + j)).length) * Tryz.prog.bytesOf 122) (by simp only [DataW.weights, Tryz.underlying43]; exact List.mem_cons_self)
      simp only [hb1, List.length_map, List.length_range, decide_eq_true_eq, reachBytes] at this
      rw [hll]
      omega
end
end Go.Proofs.YtoijpogadkogcaaGreat
