/-
  The book: what it holds; the sign of a list's place.
-/
import Derived.Test.YtoijpogadkogcaaGreatBk
namespace Go.Proofs.YtoijpogadkogcaaGreat
open Go.RowKit
set_option maxRecDepth 100000

def sg (i k : Nat) : Nat := if k % 3 = 0 then i % 256 else if k % 3 = 1 then i / 256 % 256 else 201

set_option maxHeartbeats 800000 in
theorem sign_any (i k : Nat) (w : World) (hi : i ≤ 4611686018427387904) (hk : k ≤ 9223372036854775807) : Calls Tryz.prog 66 #[.int .i64 (i : Int), .int .i64 (k : Int)] w fun e w' => e = .returned (.int .u8 (sg i k : Int)) ∧ w' = w := by
  rcases (by omega : k % 3 = 0 ∨ k % 3 = 1 ∨ k % 3 = 2) with h | h | h
  · have h0 : ((k : Int) % 3 == 0) = true := beq_iff_eq.2 (by omega)
    have HS : Hid (((i % 256 : Nat) : Int) = (sg i k : Int)) := by show _ = _; unfold sg; rw [if_pos h]
    clear h
    go_enter Tryz.func66, Tryz.ntmps66
    go_wp2
    go_ret
    exact ⟨ret_int (by rw [← HS.out]; omega), rfl⟩
  · have h0 : ((k : Int) % 3 == 0) = false := by rw [beq_eq_false_iff_ne]; omega
    have h1 : ((k : Int) % 3 == 1) = true := beq_iff_eq.2 (by omega)
    have HS : Hid (((i / 256 % 256 : Nat) : Int) = (sg i k : Int)) := by show _ = _; unfold sg; rw [if_neg (by omega), if_pos h]
    clear h
    go_enter Tryz.func66, Tryz.ntmps66
    go_wp2
    go_ret
    exact ⟨ret_int (by rw [← HS.out]; omega), rfl⟩
  · have h0 : ((k : Int) % 3 == 0) = false := by rw [beq_eq_false_iff_ne]; omega
    have h1 : ((k : Int) % 3 == 1) = false := by rw [beq_eq_false_iff_ne]; omega
    have HS : Hid ((201 : Int) = (sg i k : Int)) := by show _ = _; unfold sg; rw [if_neg (by omega), if_neg (by omega)]; rfl
    clear h
    go_enter Tryz.func66, Tryz.ntmps66
    go_wp2
    go_ret
    exact ⟨ret_int HS.out, rfl⟩

/-- A list that reads as its owner wrote it. -/
def Marked (w : World) (T sz : Nat) (F : Nat → Value) (B : Nat) (s : Value) : Prop :=
  ∃ a n cap, s = .slice a n cap ∧ n ≤ maxLen ∧ (n = 0 ∨ ∃ g, a = some ⟨g, 0, none⟩ ∧ g < B ∧ Done w T F g (n * sz))
/-- A list, and the three with more appended. -/
def Sheet (w : World) (TL T sz : Nat) (F : Nat → Value) (B : Nat) (S : Value) : Prop :=
  ∃ b s0 s1 s2 s3, S = .slice (some ⟨b, 0, none⟩) 4 4 ∧ b < B ∧ w.heap[b]? = some (.cells #[s0, s1, s2, s3] TL (0, 0)) ∧ Marked w T sz F B s0 ∧ Marked w T sz F B s1 ∧ Marked w T sz F B s2 ∧ Marked w T sz F B s3
def Part (w : World) (base TR TL T sz : Nat) (F : Nat → Nat → Value) (B : Nat) (v : Value) (n : Nat) : Prop :=
  ∃ xs, w.ownsRow base TR 1 v n xs ∧ ∀ i, i < n → ∃ S, xs[i]? = some S ∧ Sheet w TL T sz (F i) B S
def FA (i j : Nat) : Value := .int .u8 (sg i j : Int)

/-- Blocks of these kinds, below a number, are as they were. -/
def Keeps (TL T B : Nat) (w w' : World) : Prop := ∀ k cur Ty, k < B → w.heap[k]? = some (.cells cur Ty (0, 0)) → (Ty = TL ∨ Ty = T) → w'.heap[k]? = w.heap[k]?
theorem Done.keeps {w w' : World} {T : Nat} {F : Nat → Value} {g m TL B : Nat} (h : Done w T F g m) (hg : g < B) (k : Keeps TL T B w w') : Done w' T F g m := by
  obtain ⟨cur, h1, h2, h3⟩ := h
  exact ⟨cur, (k g cur T hg h1 (.inr rfl)).trans h1, h2, h3⟩
theorem Marked.keeps {w w' : World} {T sz : Nat} {F : Nat → Value} {B TL : Nat} {s : Value} (h : Marked w T sz F B s) (k : Keeps TL T B w w') : Marked w' T sz F B s := by
  obtain ⟨a, n, cap, rfl, h1, h2⟩ := h
  refine ⟨a, n, cap, rfl, h1, ?_⟩
  rcases h2 with h2 | ⟨g, rfl, hg, hd⟩
  · exact .inl h2
  · exact .inr ⟨g, rfl, hg, hd.keeps hg k⟩
theorem Marked.mono {w : World} {T sz : Nat} {F : Nat → Value} {B B' : Nat} {s : Value} (h : Marked w T sz F B s) (hB : B ≤ B') : Marked w T sz F B' s := by
  obtain ⟨a, n, cap, rfl, h1, h2⟩ := h
  refine ⟨a, n, cap, rfl, h1, ?_⟩
  rcases h2 with h2 | ⟨g, rfl, hg, hd⟩
  · exact .inl h2
  · exact .inr ⟨g, rfl, by omega, hd⟩
theorem Sheet.keeps {w w' : World} {TL T sz : Nat} {F : Nat → Value} {B : Nat} {S : Value} (h : Sheet w TL T sz F B S) (k : Keeps TL T B w w') : Sheet w' TL T sz F B S := by
  obtain ⟨b, s0, s1, s2, s3, rfl, hb, hh, m0, m1, m2, m3⟩ := h
  exact ⟨b, s0, s1, s2, s3, rfl, hb, (k b _ TL hb hh (.inl rfl)).trans hh, m0.keeps k, m1.keeps k, m2.keeps k, m3.keeps k⟩
theorem Sheet.mono {w : World} {TL T sz : Nat} {F : Nat → Value} {B B' : Nat} {S : Value} (h : Sheet w TL T sz F B S) (hB : B ≤ B') : Sheet w TL T sz F B' S := by
  obtain ⟨b, s0, s1, s2, s3, rfl, hb, hh, m0, m1, m2, m3⟩ := h
  exact ⟨b, s0, s1, s2, s3, rfl, by omega, hh, m0.mono hB, m1.mono hB, m2.mono hB, m3.mono hB⟩
theorem Part.keeps {w w' : World} {base TR TL T sz : Nat} {F : Nat → Nat → Value} {B : Nat} {v : Value} {n : Nat} (h : Part w base TR TL T sz F B v n) (k : Keeps TL T B w w') (hrow : ∀ g, v.ownBlock = some g → w'.heap[g]? = w.heap[g]?) : Part w' base TR TL T sz F B v n := by
  obtain ⟨xs, hown, hs⟩ := h
  refine ⟨xs, ⟨hown.1, ?_⟩, fun i hi => ?_⟩
  · rcases hown.2 with h2 | ⟨g, cap, cur, rfl, hb, hg, h3⟩
    · exact .inl h2
    · exact .inr ⟨g, cap, cur, rfl, hb, (hrow g rfl).trans hg, h3⟩
  · obtain ⟨S, h1, h2⟩ := hs i hi
    exact ⟨S, h1, h2.keeps k⟩
theorem Part.mono {w : World} {base TR TL T sz : Nat} {F : Nat → Nat → Value} {B B' : Nat} {v : Value} {n : Nat} (h : Part w base TR TL T sz F B v n) (hB : B ≤ B') : Part w base TR TL T sz F B' v n := by
  obtain ⟨xs, hown, hs⟩ := h
  refine ⟨xs, hown, fun i hi => ?_⟩
  obtain ⟨S, h1, h2⟩ := hs i hi
  exact ⟨S, h1, h2.mono hB⟩
end Go.Proofs.YtoijpogadkogcaaGreat
