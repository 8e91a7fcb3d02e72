/-
  Two streams take turns: by numbers. No program.
-/
import Derived.Test.YtoijpogadkogcaaRf
namespace Go.Proofs.Ytoijpogadkogcaa
open Go.RowKit
set_option maxRecDepth 100000

/-- By numbers: the windows (of all, of the first, of the second stream), and whose turn it is (true: the first stream's). -/
structure Nx where
  F : Nat
  f1 : Nat
  f3 : Nat
  t : Bool
  deriving DecidableEq
def Nx.f (x : Nx) (w : Bool) : Nat := if w then x.f1 else x.f3
/-- Who goes next. -/
def Nx.who (x : Nx) : Option Bool := if 0 < min (x.f x.t) x.F then some x.t else if 0 < min (x.f (!x.t)) x.F then some (!x.t) else none
def Nx.size (x : Nx) (w : Bool) (room : Nat) : Nat := min (min (min 64 (x.f w)) x.F) (room - 6)
def Nx.less (x : Nx) (w : Bool) (n : Nat) : Nx := ⟨x.F - n, if w then x.f1 - n else x.f1, if w then x.f3 else x.f3 - n, !w⟩
def nstep (room : Nat) (x : Nx) : Option (Bool × Nat × Nx) := match x.who with
  | none => none
  | some w => if room < 7 then none else some (w, x.size w room, x.less w (x.size w room))
def nrun : Nat → Nat → Nx → List (Bool × Nat) × Nx
  | 0, _, x => ([], x)
  | fuel + 1, room, x => match nstep room x with
    | none => ([], x)
    | some (w, n, x') => ((w, n) :: (nrun fuel (room - 6 - n) x').1, (nrun fuel (room - 6 - n) x').2)
def nsum (w : Bool) : List (Bool × Nat) → Nat
  | [] => 0
  | (v, n) :: r => (if v = w then n else 0) + nsum w r
/-- The client at these numbers. -/
def sOf (w : Bool) : Nat := if w then 1 else 3
def sAt (w : Bool) (f : Nat) (D : Bytes) : DS := { Ds.begun (sOf w) true with from_ := (f : Int), data := D }
structure RelN (d : Ds) (x : Nx) : Prop where
  is : ∃ D1 D3, d = Cl 6 6 3 2 x.F (if x.t then [1, 3] else [3, 1]) (sAt true x.f1 D1) (some (sAt false x.f3 D3)) ∧ x.f1 + 30 ≤ D1.length ∧ D1.length ≤ 256 ∧ x.f3 + 30 ≤ D3.length ∧ D3.length ≤ 256
  F : x.F ≤ 150
  f1 : x.f1 ≤ 100
  f3 : x.f3 ≤ 100
theorem RelN.ok {d : Ds} {x : Nx} (h : RelN d x) : d.Ok 3000000 1 3000010 ∧ d.ctl = [] := by
  obtain ⟨D1, D3, rfl, h1, h2, h3, h4⟩ := h.is
  have := h.F; have := h.f1; have := h.f3
  refine ⟨cl_ok (by omega) (by omega) 3 (by omega) (by omega) 2 x.F (by omega) (by omega) (by omega) (by omega) _ (by cases x.t <;> simp) _ _ (sfits 1 (by omega) true x.f1 (by omega) (by omega) [] D1 (by simp) h2) rfl (by show (1 : Nat) ≠ 0; omega) rfl (fun s hs => ?_), rfl⟩
  injection hs with hs
  subst hs
  exact ⟨by omega, sfits 3 (by omega) true x.f3 (by omega) (by omega) [] D3 (by simp) h4, rfl, by show (1 : Nat) ≠ 0; omega, rfl⟩
theorem can_sAt (d : Ds) (w : Bool) (f : Nat) (D : Bytes) (F : Nat) (hF : d.from_ = (F : Int)) (hD : 0 < D.length) : d.canGo (sAt w f D) = decide (0 < min f F) := by
  unfold Ds.canGo
  rw [hF]
  have h1 : decide ((sAt w f D).block ≠ []) = false := by simp [sAt, Ds.begun]
  have h2 : decide ((sAt w f D).data.length = 0) = false := by show decide (D.length = 0) = false; simp; intro e; rw [e] at hD; simp at hD
  have h3 : decide (0 < min (sAt w f D).from_ (F : Int)) = decide (0 < min f F) := by
    show decide (0 < min (f : Int) (F : Int)) = _
    by_cases e : 0 < min f F
    · rw [decide_eq_true e, decide_eq_true (by omega)]
    · rw [decide_eq_false e, decide_eq_false (by omega)]
  rw [h1, h2, h3]
  rfl
theorem sAt_waits (w : Bool) (f : Nat) (D : Bytes) (hD : 0 < D.length) : (sAt w f D).waits = true := by
  unfold DS.waits
  have : decide (0 < (sAt w f D).data.length) = true := by show decide (0 < D.length) = true; simpa using hD
  rw [this]
  simp
/-- A turn. -/
theorem turned_sAt {d : Ds} {k : Nat} (hk : d.ready = some k) (w : Bool) (f F : Nat) (D : Bytes) (room : Nat) (hs : d.stOf (d.ring.getD k 0) = sAt w f D) (hF : d.from_ = (F : Int)) (hfD : f + 30 ≤ D.length) :
    d.turned (room : Int) = if room < 7 then none else some (frame 0 0 (sOf w) (D.take (min (min (min 64 f) F) (room - 6))), (({ d with from_ := d.from_ - ((min (min (min 64 f) F) (room - 6) : Nat) : Int) } : Ds).setS (sOf w) (sAt w (f - min (min (min 64 f) F) (room - 6)) (D.drop (min (min (min 64 f) F) (room - 6))))).leave k (sAt w (f - min (min (min 64 f) F) (room - 6)) (D.drop (min (min (min 64 f) F) (room - 6))))) := by
  rw [turned_some _ hk hs]
  have hl : (sAt w f D).data.length = D.length := rfl
  by_cases h7 : room < 7
  · rw [if_pos h7]
    have e : (d.turn (sAt w f D) (room : Int)).1 = [] := by
      unfold Ds.turn
      rw [if_neg (by simp [sAt, Ds.begun]), if_neg (by simp [sAt, Ds.begun, stTells]), if_pos (by rw [hl]; omega)]
    rw [e]
    rfl
  · rw [if_neg h7]
    obtain ⟨n, hn⟩ : ∃ n, min (min (min 64 f) F) (room - 6) = n := ⟨_, rfl⟩
    rw [hn]
    have hdn : d.dataN (sAt w f D) (room : Int) = (n : Int) := by
      unfold Ds.dataN
      rw [hF]
      show min (min (min (min ((D.length : Nat) : Int) 64) (f : Int)) (F : Int)) ((room : Int) - 6) = (n : Int)
      omega
    have e := turn_data d (sAt w f D) (room : Int) rfl rfl rfl n hdn
    rw [if_neg (by rw [hl]; omega)] at e
    rw [e]
    unfold dataT
    dsimp only
    rw [if_neg (by rw [frame_len]; omega)]
    have e2 : ({ sAt w f D with data := (sAt w f D).data.drop n, from_ := (sAt w f D).from_ - (n : Int) } : DS) = sAt w (f - n) (D.drop n) := by
      have : (f : Int) - (n : Int) = ((f - n : Nat) : Int) := by omega
      unfold sAt
      dsimp only
      rw [this]
    rw [e2]
    rfl
theorem rel_step {d : Ds} {x : Nx} (h : RelN d x) (room : Nat) : match nstep room x with
    | none => d.turned (room : Int) = none
    | some (w, n, x') => ∃ d' body, d.turned (room : Int) = some (frame 0 0 (sOf w) body, d') ∧ body.length = n ∧ 6 + n ≤ room ∧ n ≤ 64 ∧ RelN d' x' := by
  obtain ⟨D1, D3, hd, h1, h2, h3, h4⟩ := h.is
  have q1 := h.F
  have q2 := h.f1
  have q3 := h.f3
  obtain ⟨F, f1, f3, t⟩ := x
  dsimp only at hd h1 h3 q1 q2 q3
  have hF : d.from_ = (F : Int) := by rw [hd]; rfl
  have hs1 : d.stOf 1 = sAt true f1 D1 := by rw [hd]; rfl
  have hs3 : d.stOf 3 = sAt false f3 D3 := by rw [hd]; rfl
  have c1 : d.canGo (d.stOf 1) = decide (0 < min f1 F) := by rw [hs1]; exact can_sAt d true f1 D1 F hF (by omega)
  have c3 : d.canGo (d.stOf 3) = decide (0 < min f3 F) := by rw [hs3]; exact can_sAt d false f3 D3 F hF (by omega)
  -- a turn of the first stream, at place k
  have go1 : ∀ k, d.ready = some k → d.ring.getD k 0 = 1 → d.ring.eraseIdx k = [3] → 0 < min f1 F → match (if room < 7 then none else some (true, Nx.size ⟨F, f1, f3, t⟩ true room, Nx.less ⟨F, f1, f3, t⟩ true (Nx.size ⟨F, f1, f3, t⟩ true room))) with
      | none => d.turned (room : Int) = none
      | some (w, n, x') => ∃ d' body, d.turned (room : Int) = some (frame 0 0 (sOf w) body, d') ∧ body.length = n ∧ 6 + n ≤ room ∧ n ≤ 64 ∧ RelN d' x' := fun k hk hr he h0 => by
    have e := turned_sAt hk true f1 F D1 room (by rw [hr]; exact hs1) hF h1
    by_cases h7 : room < 7
    · rw [if_pos h7]; rw [if_pos h7] at e; exact e
    · rw [if_neg h7]; rw [if_neg h7] at e
      have esz : Nx.size ⟨F, f1, f3, t⟩ true room = min (min (min 64 f1) F) (room - 6) := rfl
      rw [esz]
      obtain ⟨n, hn⟩ : ∃ n, min (min (min 64 f1) F) (room - 6) = n := ⟨_, rfl⟩
      rw [hn] at e ⊢
      dsimp only
      refine ⟨_, _, e, ?_, by omega, by omega, ?_⟩
      · rw [List.length_take]; omega
      · refine ⟨⟨D1.drop n, D3, ?_, ?_, ?_, h3, h4⟩, by show F - n ≤ 150; omega, by show f1 - n ≤ 100; omega, q3⟩
        · have e5 : d.from_ - (n : Int) = ((F - n : Nat) : Int) := by omega
          rw [e5]
          have e6 : ({ d with from_ := ((F - n : Nat) : Int) } : Ds) = Cl 6 6 3 2 ((F - n : Nat) : Int) d.ring (sAt true f1 D1) (some (sAt false f3 D3)) := by rw [hd]; rfl
          rw [e6]
          show ((Cl 6 6 3 2 ((F - n : Nat) : Int) d.ring (sAt true f1 D1) (some (sAt false f3 D3))).setS 1 (sAt true (f1 - n) (D1.drop n))).leave k _ = _
          rw [cl_setS1]
          unfold Ds.leave
          rw [if_pos (sAt_waits true (f1 - n) (D1.drop n) (by rw [List.length_drop]; omega))]
          show Ds.enter { Cl 6 6 3 2 ((F - n : Nat) : Int) d.ring (sAt true (f1 - n) (D1.drop n)) (some (sAt false f3 D3)) with ring := d.ring.eraseIdx k } 1 = _
          rw [he]
          rfl
        · show f1 - n + 30 ≤ _
          rw [List.length_drop]; omega
        · rw [List.length_drop]; omega
  have go3 : ∀ k, d.ready = some k → d.ring.getD k 0 = 3 → d.ring.eraseIdx k = [1] → 0 < min f3 F → match (if room < 7 then none else some (false, Nx.size ⟨F, f1, f3, t⟩ false room, Nx.less ⟨F, f1, f3, t⟩ false (Nx.size ⟨F, f1, f3, t⟩ false room))) with
      | none => d.turned (room : Int) = none
      | some (w, n, x') => ∃ d' body, d.turned (room : Int) = some (frame 0 0 (sOf w) body, d') ∧ body.length = n ∧ 6 + n ≤ room ∧ n ≤ 64 ∧ RelN d' x' := fun k hk hr he h0 => by
    have e := turned_sAt hk false f3 F D3 room (by rw [hr]; exact hs3) hF h3
    by_cases h7 : room < 7
    · rw [if_pos h7]; rw [if_pos h7] at e; exact e
    · rw [if_neg h7]; rw [if_neg h7] at e
      have esz : Nx.size ⟨F, f1, f3, t⟩ false room = min (min (min 64 f3) F) (room - 6) := rfl
      rw [esz]
      obtain ⟨n, hn⟩ : ∃ n, min (min (min 64 f3) F) (room - 6) = n := ⟨_, rfl⟩
      rw [hn] at e ⊢
      dsimp only
      refine ⟨_, _, e, ?_, by omega, by omega, ?_⟩
      · rw [List.length_take]; omega
      · refine ⟨⟨D1, D3.drop n, ?_, h1, h2, ?_, ?_⟩, by show F - n ≤ 150; omega, q2, by show f3 - n ≤ 100; omega⟩
        · have e5 : d.from_ - (n : Int) = ((F - n : Nat) : Int) := by omega
          rw [e5]
          have e6 : ({ d with from_ := ((F - n : Nat) : Int) } : Ds) = Cl 6 6 3 2 ((F - n : Nat) : Int) d.ring (sAt true f1 D1) (some (sAt false f3 D3)) := by rw [hd]; rfl
          rw [e6]
          show ((Cl 6 6 3 2 ((F - n : Nat) : Int) d.ring (sAt true f1 D1) (some (sAt false f3 D3))).setS 3 (sAt false (f3 - n) (D3.drop n))).leave k _ = _
          rw [cl_setS3]
          unfold Ds.leave
          rw [if_pos (sAt_waits false (f3 - n) (D3.drop n) (by rw [List.length_drop]; omega))]
          show Ds.enter { Cl 6 6 3 2 ((F - n : Nat) : Int) d.ring (sAt true f1 D1) (some (sAt false (f3 - n) (D3.drop n))) with ring := d.ring.eraseIdx k } 3 = _
          rw [he]
          rfl
        · show f3 - n + 30 ≤ _
          rw [List.length_drop]; omega
        · rw [List.length_drop]; omega
  have hrd : d.ready = d.ring.findIdx? (fun n => d.canGo (d.stOf n)) := rfl
  cases t with
  | true =>
    have hr : d.ring = [1, 3] := by rw [hd]; rfl
    unfold nstep Nx.who Nx.f
    simp only [if_true, Bool.not_true, Bool.false_eq_true, if_false]
    by_cases a1 : 0 < min f1 F
    · rw [if_pos a1]
      exact go1 0 (by rw [hrd, hr, List.findIdx?_cons, c1, decide_eq_true a1]; rfl) (by rw [hr]; rfl) (by rw [hr]; rfl) a1
    · rw [if_neg a1]
      by_cases a3 : 0 < min f3 F
      · rw [if_pos a3]
        exact go3 1 (by rw [hrd, hr, List.findIdx?_cons, c1, decide_eq_false a1, List.findIdx?_cons, c3, decide_eq_true a3]; rfl) (by rw [hr]; rfl) (by rw [hr]; rfl) a3
      · rw [if_neg a3]
        exact turned_none _ (by rw [hrd, hr, List.findIdx?_cons, c1, decide_eq_false a1, List.findIdx?_cons, c3, decide_eq_false a3]; rfl)
  | false =>
    have hr : d.ring = [3, 1] := by rw [hd]; rfl
    unfold nstep Nx.who Nx.f
    simp only [if_true, Bool.not_false, Bool.false_eq_true, if_false]
    by_cases a3 : 0 < min f3 F
    · rw [if_pos a3]
      exact go3 0 (by rw [hrd, hr, List.findIdx?_cons, c3, decide_eq_true a3]; rfl) (by rw [hr]; rfl) (by rw [hr]; rfl) a3
    · rw [if_neg a3]
      by_cases a1 : 0 < min f1 F
      · rw [if_pos a1]
        exact go1 1 (by rw [hrd, hr, List.findIdx?_cons, c3, decide_eq_false a3, List.findIdx?_cons, c1, decide_eq_true a1]; rfl) (by rw [hr]; rfl) (by rw [hr]; rfl) a1
      · rw [if_neg a1]
        exact turned_none _ (by rw [hrd, hr, List.findIdx?_cons, c3, decide_eq_false a3, List.findIdx?_cons, c1, decide_eq_false a1]; rfl)
/-- Frames of data, of these lengths. -/
def FrOf : List (Nat × Nat × Nat × Bytes) → List (Bool × Nat) → Prop
  | [], [] => True
  | f :: r, p :: q => f.1 = 0 ∧ f.2.1 = 0 ∧ f.2.2.1 = sOf p.1 ∧ f.2.2.2.length = p.2 ∧ p.2 ≤ 64 ∧ FrOf r q
  | _, _ => False
theorem rel_run (R : Nat) : ∀ (fuel : Nat) (d : Ds) (x : Nx) (out : Bytes), RelN d x → out.length ≤ R → ∃ d' fs, Ds.outRing (R : Int) fuel d out = (d', out ++ flat fs) ∧ RelN d' (nrun fuel (R - out.length) x).2 ∧ FrOf fs (nrun fuel (R - out.length) x).1 ∧ (out ++ flat fs).length ≤ R := by
  intro fuel
  induction fuel with
  | zero =>
    intro d x out h ho
    exact ⟨d, [], by show (d, out) = (d, out ++ []); rw [List.append_nil], h, trivial, by show (out ++ []).length ≤ R; rw [List.append_nil]; exact ho⟩
  | succ fuel ih =>
    intro d x out h ho
    have hst := rel_step h (R - out.length)
    have hi : ((R : Int) - (out.length : Int)) = ((R - out.length : Nat) : Int) := by omega
    unfold nrun
    cases hn : nstep (R - out.length) x with
    | none =>
      rw [hn] at hst
      dsimp only at hst ⊢
      refine ⟨d, [], ?_, h, trivial, by show (out ++ []).length ≤ R; rw [List.append_nil]; exact ho⟩
      rw [ring_none (by rw [hi]; exact hst)]
      show (d, out) = (d, out ++ [])
      rw [List.append_nil]
    | some p =>
      obtain ⟨w, n, x'⟩ := p
      rw [hn] at hst
      dsimp only at hst ⊢
      obtain ⟨d', body, e, hb, hr, h64, h'⟩ := hst
      have hl : (out ++ frame 0 0 (sOf w) body).length = out.length + 6 + n := by rw [List.length_append, frame_len]; omega
      obtain ⟨d2, fs, e2, r2, f2, l2⟩ := ih d' x' (out ++ frame 0 0 (sOf w) body) h' (by omega)
      have hroom : R - (out ++ frame 0 0 (sOf w) body).length = R - out.length - 6 - n := by omega
      rw [hroom] at r2 f2
      refine ⟨d2, (0, 0, sOf w, body) :: fs, ?_, r2, ⟨rfl, rfl, rfl, hb, h64, f2⟩, ?_⟩
      · rw [ring_some (by rw [hi]; exact e), e2]
        show _ = (d2, out ++ (frame 0 0 (sOf w) body ++ flat fs))
        rw [List.append_assoc]
      · show (out ++ (frame 0 0 (sOf w) body ++ flat fs)).length ≤ R
        rw [← List.append_assoc]; exact l2
/-- So many bytes go out. -/
theorem rel_out {d : Ds} {x : Nx} (h : RelN d x) (R : Nat) : ∃ d' fs, d.out (R : Int) = (d', flat fs) ∧ RelN d' (nrun (R + 1) R x).2 ∧ FrOf fs (nrun (R + 1) R x).1 ∧ (flat fs).length ≤ R := by
  obtain ⟨d', fs, e, r, f, l⟩ := rel_run R (R + 1) d x [] h (Nat.zero_le _)
  refine ⟨d', fs, ?_, r, f, by simpa using l⟩
  have hc := h.ok.2
  rw [out_ring (dd := d) (out := []) rfl rfl hc]
  simpa using e
/-- The headers of the second stream. -/
def getH : Hdrs := [([58, 109, 101, 116, 104, 111, 100], [71, 69, 84])]
theorem getH_packs : packs getH = true := by decide +kernel
def getB : Bytes := encAll getH
def getN : Nat := 6 + getB.length
theorem getN_le : getN ≤ 70 := by decide +kernel
theorem getB_frame : Ds.headerFrames 3 getB = frame 1 2 3 getB := by decide +kernel
/-- The client, before. -/
def S3b (D : Bytes) : DS := { Ds.begun 3 true with block := getB, data := D }
def At (D1 D3 : Bytes) : Ds := Cl 6 6 3 2 146 [3, 1] (sAt true 96 D1) (some (S3b D3))
theorem at_out (D1 D3 : Bytes) (h1 : 130 ≤ D1.length) (h2 : D1.length ≤ 256) (h3 : 130 ≤ D3.length) (h4 : D3.length ≤ 256) (R : Nat) (hR : 140 ≤ R) :
    ∃ d' fs, (At D1 D3).out (R : Int) = (d', flat ((1, 2, 3, getB) :: fs)) ∧ RelN d' (nrun R (R - getN) ⟨146, 96, 100, true⟩).2 ∧ FrOf fs (nrun R (R - getN) ⟨146, 96, 100, true⟩).1 ∧ (flat ((1, 2, 3, getB) :: fs)).length ≤ R := by
  have hgn := getN_le
  have hne : (S3b D3).block ≠ [] := by show getB ≠ []; decide +kernel
  have hbl : (Ds.headerFrames 3 getB).length = getN := by rw [getB_frame, frame_len]; rfl
  have ho : (At D1 D3).stOf 3 = S3b D3 := rfl
  have t1 : (At D1 D3).turned ((R : Int) - (([] : Bytes).length : Int)) = some (frame 1 2 3 getB, Cl 6 6 3 2 146 [1, 3] (sAt true 96 D1) (some (sAt false 100 D3))) := by
    have e := turn_head (At D1 D3) (S3b D3) ((R : Int) - (([] : Bytes).length : Int)) hne
    rw [if_neg (by show ¬ (R : Int) - ((0 : Nat) : Int) < ((Ds.headerFrames 3 getB).length : Int); rw [hbl]; omega)] at e
    rw [turned_first (n := 3) (r := [1]) rfl (by rw [ho]; unfold Ds.canGo; simp [hne]), ho, e]
    dsimp only
    rw [show (S3b D3).id = 3 from rfl, show (S3b D3).block = getB from rfl, if_neg (by rw [hbl]; unfold getN; omega), getB_frame]
    unfold At
    rw [cl_setS3]
    show some (frame 1 2 3 getB, (Cl 6 6 3 2 146 [3, 1] (sAt true 96 D1) (some (sAt false 100 D3))).leave 0 (sAt false 100 D3)) = _
    unfold Ds.leave
    rw [if_pos (sAt_waits false 100 D3 (by omega))]
    rfl
  have hR0 : RelN (Cl 6 6 3 2 146 [1, 3] (sAt true 96 D1) (some (sAt false 100 D3))) ⟨146, 96, 100, true⟩ := ⟨⟨D1, D3, rfl, by show 96 + 30 ≤ _; omega, h2, by show 100 + 30 ≤ _; omega, h4⟩, by show 146 ≤ 150; omega, by show 96 ≤ 100; omega, by show 100 ≤ 100; omega⟩
  have hfl : (frame 1 2 3 getB).length = getN := frame_len _ _ _ _
  obtain ⟨d', fs, e, r, f, l⟩ := rel_run R R _ _ (frame 1 2 3 getB) hR0 (by rw [hfl]; omega)
  rw [hfl] at r f
  refine ⟨d', fs, ?_, r, f, l⟩
  rw [out_ring (dd := At D1 D3) (out := []) rfl rfl rfl]
  have hf : (R : Int).toNat + 1 = R + 1 := by omega
  rw [hf, ring_some t1]
  exact e
/-- Eight times. -/
def nAll (R : Nat) : Nat → List (Bool × Nat) × Nx
  | 0 => nrun R (R - getN) ⟨146, 96, 100, true⟩
  | k + 1 => nrun (R + 1) R (nAll R k).2
def nTot (R : Nat) (w : Bool) : Nat → Nat
  | 0 => 0
  | k + 1 => nTot R w k + nsum w (nAll R k).1
theorem nTot_ok : ∀ r, r < 60 → nTot (140 + r) true 8 + nTot (140 + r) false 8 = 146 ∧ nTot (140 + r) true 8 ≤ 100 ∧ nTot (140 + r) false 8 ≤ 100 ∧ nTot (140 + r) true 8 ≤ nTot (140 + r) false 8 + 64 ∧ nTot (140 + r) false 8 ≤ nTot (140 + r) true 8 + 64 := by decide +kernel
end Go.Proofs.Ytoijpogadkogcaa
