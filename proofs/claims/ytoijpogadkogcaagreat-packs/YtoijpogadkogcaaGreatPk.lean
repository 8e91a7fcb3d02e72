/-
  Pack and Unpack, and what is lent and told, each as one contract.
-/
import Derived.Test.YtoijpogadkogcaaGreatRetP
namespace Go.Proofs.YtoijpogadkogcaaGreat
open Go.RowKit
set_option maxRecDepth 100000

def packedOf (m : List (List UInt8 × List UInt8)) : List UInt8 := if packs m = true then encAll m else []
def pcode (m : List (List UInt8 × List UInt8)) : Int := if packs m = true then 0 else 2
def unpackedOf (l : List UInt8) : List (List UInt8 × List UInt8) := (unpacks l).getD []
def ucode (l : List UInt8) : Int := if (unpacks l).isSome = true then 0 else 3
theorem packedOf_le (m : List (List UInt8 × List UInt8)) : (packedOf m).length ≤ 100000 := by
  unfold packedOf
  split
  · rename_i h
    simp only [packs, okAll, Bool.and_eq_true, decide_eq_true_eq, List.all_eq_true] at h
    obtain ⟨⟨h1, h8⟩, hok⟩ := h
    have hl := encAll_le m hok
    omega
  · simp
theorem unpackedOf_le (l : List UInt8) : (unpackedOf l).length ≤ 8 := by
  unfold unpackedOf
  cases h : unpacks l with
  | none => simp
  | some m => exact (unpacks_len l m h).2.2.1

theorem fPack_one (vh : Value) (m : List (List UInt8 × List UInt8)) (w : World) (hh : IsPairs w vh m) (hs : ∀ p ∈ m, p.1.length ≤ maxLen ∧ p.2.length ≤ maxLen) :
    Calls Tryz.prog 102 #[vh] w fun e w' => ∃ v, e = .returned (.tuple #[v, .int .i64 (pcode m)]) ∧ w'.ownsRow w.heap.size 5 1 v (packedOf m).length (bcells (packedOf m)) ∧ Ext w w' := by
  refine (fPack_any vh m w hh hs).mono ?_
  rintro e w' ⟨hE, ⟨hp, v, rfl, hown⟩ | ⟨hp, rfl⟩⟩
  · exact ⟨v, by rw [pcode, if_pos hp], by rw [packedOf, if_pos hp]; exact hown, hE⟩
  · have h : ¬ packs m = true := by rw [hp]; decide
    exact ⟨.slice none 0 0, by rw [pcode, if_neg h], by rw [packedOf, if_neg h]; exact World.ownsRow_nil _ _ _ _, hE⟩
theorem rPack_one (vh : Value) (m : List (List UInt8 × List UInt8)) (w : World) (hh : IsPairs w vh m) (hs : ∀ p ∈ m, p.1.length ≤ maxLen ∧ p.2.length ≤ maxLen) :
    Calls Tryz.prog 103 #[vh] w fun e w' => ∃ v, e = .returned (.tuple #[v, .int .i64 (pcode m)]) ∧ w'.ownsRow w.heap.size 5 1 v (packedOf m).length (bcells (packedOf m)) ∧ Ext w w' := by
  refine (rPack_any vh m w hh hs).mono ?_
  rintro e w' ⟨hE, ⟨hp, v, rfl, hown⟩ | ⟨hp, rfl⟩⟩
  · exact ⟨v, by rw [pcode, if_pos hp], by rw [packedOf, if_pos hp]; exact hown, hE⟩
  · have h : ¬ packs m = true := by rw [hp]; decide
    exact ⟨.slice none 0 0, by rw [pcode, if_neg h], by rw [packedOf, if_neg h]; exact World.ownsRow_nil _ _ _ _, hE⟩
theorem fUnpack_one (v : Value) (l : List UInt8) (w : World) (h : IsBytes w v l) :
    Calls Tryz.prog 107 #[v] w fun e w' => ∃ v', e = .returned (.tuple #[v', .int .i64 (ucode l)]) ∧ w'.ownsRow w.heap.size 122 2 v' (unpackedOf l).length (pcells (unpackedOf l)) ∧ Ext w w' := by
  refine (fUnpack_any v l w h).mono ?_
  rintro e w' ⟨hE, ⟨m, v', hp, rfl, hown⟩ | ⟨hp, rfl⟩⟩
  · exact ⟨v', by rw [ucode, hp]; rfl, by rw [unpackedOf, hp]; exact hown, hE⟩
  · exact ⟨.slice none 0 0, by rw [ucode, hp]; rfl, by rw [unpackedOf, hp]; exact World.ownsRow_nil _ _ _ _, hE⟩
theorem rUnpack_one (v : Value) (l : List UInt8) (w : World) (h : IsBytes w v l) :
    Calls Tryz.prog 108 #[v] w fun e w' => ∃ v', e = .returned (.tuple #[v', .int .i64 (ucode l)]) ∧ w'.ownsRow w.heap.size 122 2 v' (unpackedOf l).length (pcells (unpackedOf l)) ∧ Ext w w' := by
  refine (rUnpack_any v l w h).mono ?_
  rintro e w' ⟨hE, ⟨m, v', hp, rfl, hown⟩ | ⟨hp, rfl⟩⟩
  · exact ⟨v', by rw [ucode, hp]; rfl, by rw [unpackedOf, hp]; exact hown, hE⟩
  · exact ⟨.slice none 0 0, by rw [ucode, hp]; rfl, by rw [unpackedOf, hp]; exact World.ownsRow_nil _ _ _ _, hE⟩

/-- What is lent of headers. -/
def LentP (base : Nat) (w : World) (vH g : Value) (m : List (List UInt8 × List UInt8)) : Prop :=
  (∃ cap, vH = .slice none m.length cap ∧ g = .slice none 0 0 ∧ m = []) ∨
  (∃ ad cap gb c, vH = .slice (some ad) m.length cap ∧ g = .slice (some ⟨gb, 0, none⟩) m.length c ∧ w.ownsRow base 122 2 (.slice (some ⟨gb, 0, none⟩) (m.length + 8) c) (m.length + 8) (pcells (m ++ behindP)))
/-- What is lent of bytes. -/
def LentB (base : Nat) (w : World) (vD g : Value) (l : List UInt8) : Prop :=
  (∃ cap, vD = .slice none l.length cap ∧ g = .slice none 0 0 ∧ l = []) ∨
  (∃ ad cap gb c, vD = .slice (some ad) l.length cap ∧ g = .slice (some ⟨gb, 0, none⟩) l.length c ∧ w.ownsRow base 5 1 (.slice (some ⟨gb, 0, none⟩) (l.length + 8) c) (l.length + 8) (bcells (l ++ behind)))
theorem LentP.is {base : Nat} {w : World} {vH g : Value} {m : List (List UInt8 × List UInt8)} (h : LentP base w vH g m) : IsPairs w g m := by
  rcases h with ⟨cap, rfl, rfl, rfl⟩ | ⟨ad, cap, gb, c, rfl, rfl, ho⟩
  · exact ⟨none, 0, rfl, by simp, by simp [maxLen], .inl rfl⟩
  · have := owns_take ho
    rw [take_pcells] at this
    exact IsPairs.ofOwns this
theorem LentB.is {base : Nat} {w : World} {vD g : Value} {l : List UInt8} (h : LentB base w vD g l) : IsBytes w g l := by
  rcases h with ⟨cap, rfl, rfl, rfl⟩ | ⟨ad, cap, gb, c, rfl, rfl, ho⟩
  · exact ⟨none, 0, rfl, by simp, by simp [maxLen], .inl rfl⟩
  · have := owns_take ho
    rw [take_bcells] at this
    exact IsBytes.ofOwns this
theorem LentP.ext {base : Nat} {w w' : World} {vH g : Value} {m : List (List UInt8 × List UInt8)} (h : LentP base w vH g m) (e : Ext w w') : LentP base w' vH g m := by
  rcases h with h | ⟨ad, cap, gb, c, h1, h2, ho⟩
  · exact .inl h
  · exact .inr ⟨ad, cap, gb, c, h1, h2, owns_ext ho e⟩
theorem LentB.ext {base : Nat} {w w' : World} {vD g : Value} {l : List UInt8} (h : LentB base w vD g l) (e : Ext w w') : LentB base w' vD g l := by
  rcases h with h | ⟨ad, cap, gb, c, h1, h2, ho⟩
  · exact .inl h
  · exact .inr ⟨ad, cap, gb, c, h1, h2, owns_ext ho e⟩
theorem LentP.low {base base' : Nat} {w : World} {vH g : Value} {m : List (List UInt8 × List UInt8)} (h : LentP base w vH g m) (hb : base' ≤ base) : LentP base' w vH g m := by
  rcases h with h | ⟨ad, cap, gb, c, h1, h2, ho⟩
  · exact .inl h
  · exact .inr ⟨ad, cap, gb, c, h1, h2, owns_mono ho hb⟩
theorem LentB.low {base base' : Nat} {w : World} {vD g : Value} {l : List UInt8} (h : LentB base w vD g l) (hb : base' ≤ base) : LentB base' w vD g l := by
  rcases h with h | ⟨ad, cap, gb, c, h1, h2, ho⟩
  · exact .inl h
  · exact .inr ⟨ad, cap, gb, c, h1, h2, owns_mono ho hb⟩
/-- A list of the one kind outlives what is done to blocks of other kinds. -/
theorem LentP.but {X : Nat → Prop} {base : Nat} {w w' : World} {vH g : Value} {m : List (List UInt8 × List UInt8)} (h : LentP base w vH g m) (b : But X w w') (hx : ∀ k cur, w.heap[k]? = some (.cells cur 122 (0, 0)) → base ≤ k → ¬ X k) : LentP base w' vH g m := by
  rcases h with h | ⟨ad, cap, gb, c, h1, h2, ho⟩
  · exact .inl h
  · refine .inr ⟨ad, cap, gb, c, h1, h2, b.kept ho (fun k hk => ?_)⟩
    obtain ⟨cur, hc⟩ := own_ty ho k hk
    exact hx k cur hc (ho.lt k hk).1
theorem LentB.but {X : Nat → Prop} {base : Nat} {w w' : World} {vD g : Value} {l : List UInt8} (h : LentB base w vD g l) (b : But X w w') (hx : ∀ k cur, w.heap[k]? = some (.cells cur 5 (0, 0)) → base ≤ k → ¬ X k) : LentB base w' vD g l := by
  rcases h with h | ⟨ad, cap, gb, c, h1, h2, ho⟩
  · exact .inl h
  · refine .inr ⟨ad, cap, gb, c, h1, h2, b.kept ho (fun k hk => ?_)⟩
    obtain ⟨cur, hc⟩ := own_ty ho k hk
    exact hx k cur hc (ho.lt k hk).1

theorem lentPairs_any (vH : Value) (m : List (List UInt8 × List UInt8)) (w : World) (hH : IsPairs w vH m) (hn : m.length ≤ 4398046510976) :
    Calls Tryz.prog 101 #[vH] w fun e w' => ∃ g, e = .returned g ∧ LentP w.heap.size w' vH g m ∧ Ext w w' := by
  obtain ⟨a, cap, rfl, h1, h2, h3⟩ := id hH
  cases a with
  | none =>
    refine (lentPairs_nil m.length cap w).mono ?_
    rintro e w' ⟨rfl, rfl⟩
    refine ⟨_, rfl, .inl ⟨cap, rfl, rfl, ?_⟩, Ext.refl _⟩
    rcases h3 with h3 | ⟨b, o, h3, _⟩
    · exact h3
    · cases h3
  | some ad =>
    refine (lentPairs_some ad cap m w hH hn).mono ?_
    rintro e w' ⟨g, c, rfl, ho, hE⟩
    exact ⟨_, rfl, .inr ⟨ad, cap, g, c, rfl, rfl, ho⟩, hE⟩
theorem lent_any (vD : Value) (l : List UInt8) (w : World) (hD : IsBytes w vD l) (hn : l.length ≤ 140737488351232) :
    Calls Tryz.prog 106 #[vD] w fun e w' => ∃ g, e = .returned g ∧ LentB w.heap.size w' vD g l ∧ Ext w w' := by
  obtain ⟨a, cap, rfl, h1, h2, h3⟩ := id hD
  cases a with
  | none =>
    refine (lent_nil l.length cap w).mono ?_
    rintro e w' ⟨rfl, rfl⟩
    refine ⟨_, rfl, .inl ⟨cap, rfl, rfl, ?_⟩, Ext.refl _⟩
    rcases h3 with h3 | ⟨b, o, h3, _⟩
    · exact h3
    · cases h3
  | some ad =>
    refine (lent_some ad cap l w hD hn).mono ?_
    rintro e w' ⟨g, c, rfl, ho, hE⟩
    exact ⟨_, rfl, .inr ⟨ad, cap, g, c, rfl, rfl, ho⟩, hE⟩
theorem returnedPairs_any (w0 : World) (Y : Nat) (va vc : Value) (nA nC BA BC : Nat) (vH g : Value) (m : List (List UInt8 × List UInt8)) (w : World) (inv : Inv w0 Y w va vc nA nC BA BC)
    (hl : LentP BC w vH g m) (hb : IsPairs w vH m) (hn : m.length ≤ 4398046510976) (hnC : nC ≤ 4398046511104) :
    Calls Tryz.prog 105 #[.pointer (some ⟨Y, 0, none⟩), g, vH] w fun e w' => e = .returned (.bool true) ∧ ∃ vc' nC' BC', nC' ≤ nC + 1 ∧ Inv w0 Y w' va vc' nA nC' BA BC' := by
  rcases hl with ⟨cap, rfl, rfl, rfl⟩ | ⟨ad, cap, gb, c, rfl, rfl, ho⟩
  · refine (returnedPairs_nil Y _ cap _ w).mono ?_
    rintro e w' ⟨rfl, rfl⟩
    exact ⟨rfl, vc, nC, BC, by omega, inv⟩
  · refine (returnedPairs_some w0 Y va vc nA nC BA BC gb c cap ad m w inv ho hb hn hnC).mono ?_
    rintro e w' ⟨rfl, vc', h1⟩
    exact ⟨rfl, vc', nC + 1, _, by omega, h1⟩
theorem returned_any (w0 : World) (Y : Nat) (va vc : Value) (nA nC BA BC : Nat) (vD g : Value) (l : List UInt8) (w : World) (inv : Inv w0 Y w va vc nA nC BA BC)
    (hl : LentB BA w vD g l) (hb : IsBytes w vD l) (hn : l.length ≤ 140737488351232) (hnA : nA ≤ 4398046511104) :
    Calls Tryz.prog 110 #[.pointer (some ⟨Y, 0, none⟩), g, vD] w fun e w' => e = .returned (.bool true) ∧ ∃ va' nA' BA', nA' ≤ nA + 1 ∧ Inv w0 Y w' va' vc nA' nC BA' BC := by
  rcases hl with ⟨cap, rfl, rfl, rfl⟩ | ⟨ad, cap, gb, c, rfl, rfl, ho⟩
  · refine (returned_nil Y _ cap _ w).mono ?_
    rintro e w' ⟨rfl, rfl⟩
    exact ⟨rfl, va, nA, BA, by omega, inv⟩
  · refine (returned_some w0 Y va vc nA nC BA BC gb c cap ad l w inv ho hb hn hnA).mono ?_
    rintro e w' ⟨rfl, va', h1⟩
    exact ⟨rfl, va', nA + 1, _, by omega, h1⟩
end Go.Proofs.YtoijpogadkogcaaGreat
