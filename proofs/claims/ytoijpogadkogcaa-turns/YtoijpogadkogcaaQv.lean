/-
  The program's end as one among other parts: New, In, Out, Events.
-/
import Derived.Test.YtoijpogadkogcaaQu
import Derived.Test.YtoijpogadkogcaaQs
import Derived.Test.YtoijpogadkogcaaQt
namespace Go.Proofs.Ytoijpogadkogcaa
open Go.RowKit
set_option maxRecDepth 100000

/-- How many streams of the ring tell that they were reset. -/
def tellsN (d : Ds) : Nat := (d.ring.filter (fun n => stTells (d.stOf n).state)).length
/-- What the turns want. -/
structure OutOk (d : Ds) (c : Nat := 0) : Prop where
  fits : d.Fits (tellsN d + 1 + c)
  ids : ∀ n s, d.str n = some s → s.id = n ∧ s.ends = false
theorem OutOk.mono {d : Ds} {c c' : Nat} (h : OutOk d c) (hc : c' ≤ c) : OutOk d c' := ⟨h.fits.mono (by omega), h.ids⟩
theorem leave_is (d : Ds) (k : Nat) (s : DS) : d.leave k s = { d with ring := (d.leave k s).ring } := by
  unfold Ds.leave
  dsimp only
  split
  · unfold Ds.enter; split <;> rfl
  · rfl
theorem enter_ring (d : Ds) (n : Nat) : (d.enter n).ring = if d.ring.contains n then d.ring else d.ring ++ [n] := by unfold Ds.enter; split <;> rfl
theorem leave_len (d : Ds) (k : Nat) (s : DS) (hk : k < d.ring.length) : (d.leave k s).ring.length ≤ d.ring.length := by
  have h1 : (d.ring.eraseIdx k).length = d.ring.length - 1 := by rw [List.length_eraseIdx]; simp [hk]
  unfold Ds.leave
  dsimp only
  split
  · rw [enter_ring]
    dsimp only
    split
    · omega
    · rw [List.length_append, h1]; simp; omega
  · dsimp only; omega
theorem filter_erase (P : Nat → Bool) : ∀ (r : List Nat) (k : Nat), k < r.length → ((r.eraseIdx k).filter P).length + (if P (r.getD k 0) then 1 else 0) = (r.filter P).length
  | [], k, h => by simp at h
  | a :: r, 0, _ => by
    show (r.filter P).length + (if P a then 1 else 0) = _
    rw [List.filter_cons]
    split <;> simp
  | a :: r, k + 1, h => by
    have ih := filter_erase P r k (by simpa using h)
    show (((a :: r.eraseIdx k)).filter P).length + (if P (r.getD k 0) then 1 else 0) = _
    rw [List.filter_cons, List.filter_cons]
    split
    · simp only [List.length_cons]; omega
    · exact ih
theorem filter_le (P P' : Nat → Bool) (h : ∀ n, P' n = true → P n = true) : ∀ l : List Nat, (l.filter P').length ≤ (l.filter P).length
  | [] => Nat.le_refl _
  | a :: l => by
    have ih := filter_le P P' h l
    rw [List.filter_cons, List.filter_cons]
    by_cases e : P' a = true
    · rw [if_pos e, if_pos (h a e)]; simp only [List.length_cons]; omega
    · rw [if_neg e]
      split
      · simp only [List.length_cons]; omega
      · exact ih
theorem leave_tells (d : Ds) (k : Nat) (s : DS) (P : Nat → Bool) : ((d.leave k s).ring.filter P).length ≤ ((d.ring.eraseIdx k).filter P).length + (if P s.id then 1 else 0) := by
  unfold Ds.leave
  dsimp only
  split
  · rw [enter_ring]
    dsimp only
    split
    · omega
    · rw [List.filter_append, List.length_append]
      simp only [List.filter_cons, List.filter_nil]
      split <;> simp
  · dsimp only; omega
theorem leave_ok {d1 : Ds} {k : Nat} (hk : k < d1.ring.length) {s1 : DS} (hid : s1.id = d1.ring.getD k 0) {m c : Nat} (hf : d1.Fits (m + 1 + c)) (hm : tellsN d1 ≤ m) (ids : ∀ n s, d1.str n = some s → s.id = n ∧ s.ends = false) : OutOk (d1.leave k s1) c := by
  have ht : tellsN (d1.leave k s1) ≤ tellsN d1 := by
    have e : tellsN (d1.leave k s1) = ((d1.leave k s1).ring.filter (fun n => stTells (d1.stOf n).state)).length := by
      unfold tellsN
      rw [leave_is]
      rfl
    rw [e]
    refine Nat.le_trans (leave_tells d1 k s1 _) ?_
    have := filter_erase (fun n => stTells (d1.stOf n).state) d1.ring k hk
    rw [hid]
    unfold tellsN
    omega
  have hl := leave_len d1 k s1 hk
  have hr := hf.ring
  have f1 : (d1.leave k s1).Fits (m + 1 + c) := by
    rw [leave_is]
    exact hf.ring' _ (by omega)
  refine ⟨f1.mono (by omega), fun n s hn => ids n s ?_⟩
  rw [leave_is] at hn
  exact hn
theorem stOf_setS (d : Ds) (n : Nat) (s : DS) (k : Nat) : (d.setS n s).stOf k = if k = n then s else d.stOf k := by
  unfold Ds.stOf
  rw [setS_str]
  split <;> rfl
theorem stOf_some {d : Ds} {n : Nat} {s : DS} (h : d.str n = some s) : d.stOf n = s := by unfold Ds.stOf; rw [h]; rfl
/-- One stream is another, of the same state. -/
theorem tells_same (d : Ds) {n : Nat} {s s1 : DS} (hn : d.str n = some s) (hst : s1.state = s.state) : tellsN (d.setS n s1) = tellsN d := by
  unfold tellsN
  have e : (fun k => stTells ((d.setS n s1).stOf k).state) = (fun k => stTells (d.stOf k).state) := by
    funext k
    rw [stOf_setS]
    by_cases h : k = n
    · rw [if_pos h, hst, h, stOf_some hn]
    · rw [if_neg h]
  rw [e]
  rfl
theorem move_ring (d : Ds) (s : DS) (t : Nat) : (d.move s t).ring = d.ring := by
  unfold Ds.move Ds.bump
  split <;> rfl
theorem stOf_move (d : Ds) (s : DS) (t k : Nat) : (d.move s t).stOf k = if k = s.id then Ds.moved s t else d.stOf k := by
  unfold Ds.move
  rw [stOf_setS]
  have : (d.bump s.mine (Ds.shift s t)).stOf k = d.stOf k := by unfold Ds.bump; split <;> rfl
  rw [this]
theorem tells_moved (d : Ds) {k : Nat} (hk : k < d.ring.length) {s : DS} (hs : d.str (d.ring.getD k 0) = some s) (hid : s.id = d.ring.getD k 0) (ht : stTells s.state = true) : tellsN (d.move s 8) + 1 ≤ tellsN d := by
  unfold tellsN
  rw [move_ring]
  have h1 := filter_erase (fun n => stTells (d.stOf n).state) d.ring k hk
  have h2 := filter_erase (fun n => stTells ((d.move s 8).stOf n).state) d.ring k hk
  have e1 : stTells (d.stOf (d.ring.getD k 0)).state = true := by rw [stOf_some hs]; exact ht
  have e2 : stTells ((d.move s 8).stOf (d.ring.getD k 0)).state = false := by rw [stOf_move, if_pos hid.symm]; rfl
  rw [e1, if_pos rfl] at h1
  rw [e2, if_neg (by simp)] at h2
  have h3 := filter_le (fun n => stTells (d.stOf n).state) (fun n => stTells ((d.move s 8).stOf n).state) (fun n hn => by
    rw [stOf_move] at hn
    by_cases e : n = s.id
    · rw [if_pos e] at hn; exact absurd hn (by show ¬ stTells 8 = true; decide)
    · rw [if_neg e] at hn; exact hn) (d.ring.eraseIdx k)
  omega
/-- Behind a turn. -/
theorem OutOk.turn {d : Ds} {c : Nat} (h : OutOk d c) {k : Nat} (hk : k < d.ring.length) {s : DS} (hs : d.str (d.ring.getD k 0) = some s) (room : Int) (hne : (d.turn s room).1.length ≠ 0) :
    ∃ m, (d.turn s room).2.1.Fits (m + 1 + c) ∧ tellsN (d.turn s room).2.1 ≤ m ∧ (∀ n t, (d.turn s room).2.1.str n = some t → t.id = n ∧ t.ends = false) ∧ (d.turn s room).2.2.id = s.id ∧ (d.turn s room).2.1.str s.id = some (d.turn s room).2.2 := by
  obtain ⟨hid, hen⟩ := h.ids _ _ hs
  have fs := h.fits.st _ _ hs
  have hs' : d.str s.id = some s := by rw [hid]; exact hs
  by_cases hb : s.block ≠ []
  · rw [turn_head d s room hb] at hne ⊢
    split at hne
    · exact absurd rfl hne
    · rename_i hlt
      rw [if_neg hlt]
      dsimp only
      have f2 : DS.Fits { s with block := [] } := ⟨fs.id, fs.state, fs.from0, fs.from1, fs.to0, fs.to1, fs.headers, Nat.zero_le _, fs.data, fs.code⟩
      refine ⟨tellsN d, h.fits.setS _ _ f2, Nat.le_of_eq (tells_same d hs' rfl), fun n t ht => ?_, rfl, by rw [setS_str]; exact if_pos rfl⟩
      rw [setS_str] at ht
      by_cases e : n = s.id
      · rw [if_pos e] at ht; injection ht with ht; subst ht; exact ⟨e.symm, hen⟩
      · rw [if_neg e] at ht; exact h.ids n t ht
  · have hb' : s.block = [] := by
      cases e : s.block with
      | nil => rfl
      | cons a l => exact absurd (by rw [e]; simp) hb
    cases ht : stTells s.state with
    | true =>
      rw [turn_reset d s room hb' ht] at hne ⊢
      split at hne
      · exact absurd rfl hne
      · rename_i hlt
        rw [if_neg hlt]
        dsimp only
        have hm := tells_moved d hk hs hid ht
        obtain ⟨m, em⟩ : ∃ m, tellsN d = m + 1 := ⟨tellsN d - 1, by omega⟩
        have f1 := h.fits
        rw [em] at f1
        have e3 : ∀ n, (d.move s 8).str n = if n = s.id then some (Ds.moved s 8) else d.str n := fun n => by
          unfold Ds.move Ds.bump
          rw [setS_str]
          split
          · rfl
          · split <;> rfl
        refine ⟨m, Ds.Fits.move (m := m + 1 + c) (f1.mono (by omega)) fs (by omega), by omega, fun n t ht => ?_, rfl, by rw [e3]; exact if_pos rfl⟩
        rw [e3] at ht
        by_cases e : n = s.id
        · rw [if_pos e] at ht; injection ht with ht; subst ht; exact ⟨e.symm, hen⟩
        · rw [if_neg e] at ht; exact h.ids n t ht
    | false =>
      by_cases hlt : room < 6 + min s.data.length 1
      · have e : (d.turn s room).1 = [] := by
          unfold Ds.turn
          rw [if_neg hb, if_neg (by rw [ht]; simp), if_pos hlt]
        rw [e] at hne
        exact absurd rfl hne
      · have hfr0 := fs.from0
        have hdf0 := h.fits.from0
        have hdf1 := h.fits.from1
        have hfr1 := fs.from1
        obtain ⟨n, hn⟩ : ∃ n : Nat, d.dataN s room = (n : Int) := ⟨(d.dataN s room).toNat, by
          have : 0 ≤ d.dataN s room := by unfold Ds.dataN; omega
          omega⟩
        have hnA : (n : Int) ≤ s.from_ ∧ (n : Int) ≤ d.from_ := by unfold Ds.dataN at hn; omega
        rw [turn_data d s room hb' ht hen n hn, if_neg hlt]
        unfold dataT
        dsimp only
        have f := h.fits
        have f1 : Ds.Fits { d with from_ := d.from_ - n } (tellsN d + 1 + c) := ⟨f.mLast, f.tLast, f.mMost, f.tMost, f.mCount0, f.mCount1, f.tCount0, f.tCount1, by show 0 ≤ d.from_ - (n : Int); omega, by show d.from_ - (n : Int) ≤ 1000; omega, f.to0, f.to1, f.ctl, f.ring, f.ev, f.inn, f.pings, f.coming, f.bodies, f.st⟩
        have f2 : DS.Fits { s with data := s.data.drop n, from_ := s.from_ - n } := ⟨fs.id, fs.state, by show 0 ≤ s.from_ - (n : Int); omega, by show s.from_ - (n : Int) ≤ 1000; omega, fs.to0, fs.to1, fs.headers, fs.block, by show (s.data.drop n).length ≤ 256; rw [List.length_drop]; have := fs.data; omega, fs.code⟩
        refine ⟨tellsN d, f1.setS _ _ f2, Nat.le_of_eq (tells_same (s := s) { d with from_ := d.from_ - n } hs' rfl), fun j t ht => ?_, rfl, by rw [setS_str]; exact if_pos rfl⟩
        rw [setS_str] at ht
        by_cases e : j = s.id
        · rw [if_pos e] at ht; injection ht with ht; subst ht; exact ⟨e.symm, hen⟩
        · rw [if_neg e] at ht; exact h.ids j t ht
/-- Frames are no more than there is room for. -/
theorem turn_len {d : Ds} {c : Nat} (h : OutOk d c) {s : DS} (hs : d.str s.id = some s) (room : Int) : (d.turn s room).1.length = 0 ∨ ((d.turn s room).1.length : Int) ≤ room := by
  have fs := h.fits.st _ _ hs
  by_cases hb : s.block ≠ []
  · rw [turn_head d s room hb]
    split
    · exact .inl rfl
    · right; dsimp only; omega
  · have hb' : s.block = [] := by
      cases e : s.block with
      | nil => rfl
      | cons a l => exact absurd (by rw [e]; simp) hb
    cases ht : stTells s.state with
    | true =>
      rw [turn_reset d s room hb' ht]
      split
      · exact .inl rfl
      · right; dsimp only; rw [frame_len]; simp; omega
    | false =>
      have hfr0 := fs.from0
      have hdf0 := h.fits.from0
      by_cases hlt : room < 6 + min s.data.length 1
      · left
        unfold Ds.turn
        rw [if_neg hb, if_neg (by rw [ht]; simp), if_pos hlt]
        rfl
      · obtain ⟨n, hn⟩ : ∃ n : Nat, d.dataN s room = (n : Int) := ⟨(d.dataN s room).toNat, by
          have : 0 ≤ d.dataN s room := by unfold Ds.dataN; omega
          omega⟩
        have hnA : (n : Int) ≤ room - 6 := by unfold Ds.dataN at hn; omega
        rw [turn_data d s room hb' ht (h.ids _ _ hs).2 n hn, if_neg hlt]
        right
        unfold dataT
        dsimp only
        rw [frame_len, List.length_take]
        omega
/-- What turns leave alone. -/
theorem leave_keep (d : Ds) (k : Nat) (s : DS) : (d.leave k s).failed = d.failed ∧ (d.leave k s).inn = d.inn ∧ (d.leave k s).ctl = d.ctl := by
  rw [leave_is]; exact ⟨rfl, rfl, rfl⟩
theorem move_keep (d : Ds) (s : DS) (t : Nat) : (d.move s t).failed = d.failed ∧ (d.move s t).inn = d.inn ∧ (d.move s t).ctl = d.ctl := by
  unfold Ds.move Ds.bump
  split <;> exact ⟨rfl, rfl, rfl⟩
theorem turn_keep (d : Ds) (s : DS) (room : Int) : (d.turn s room).2.1.failed = d.failed ∧ (d.turn s room).2.1.inn = d.inn ∧ (d.turn s room).2.1.ctl = d.ctl := by
  unfold Ds.turn
  dsimp only
  split
  · split <;> exact ⟨rfl, rfl, rfl⟩
  · split
    · split
      · exact ⟨rfl, rfl, rfl⟩
      · exact move_keep _ _ _
    · split
      · exact ⟨rfl, rfl, rfl⟩
      · split
        · exact move_keep _ _ _
        · exact ⟨rfl, rfl, rfl⟩
theorem turn_ring (d : Ds) (s : DS) (room : Int) : (d.turn s room).2.1.ring = d.ring := by
  unfold Ds.turn
  dsimp only
  split
  · split <;> rfl
  · split
    · split
      · rfl
      · exact move_ring _ _ _
    · split
      · rfl
      · split
        · exact move_ring _ _ _
        · rfl
end Go.Proofs.Ytoijpogadkogcaa
namespace Go.Proofs.Ytoijpogadkogcaa
open Go.RowKit
set_option maxRecDepth 100000

theorem elem_frs : Try.prog.elem 73 = 90 := by kernel_rfl
theorem size_fr (W : World) : (sizeOf 90).run Try.prog W = .ok 4 W := by kernel_rfl
theorem sliced_at (a o k n cap sz : Nat) : sliced (some ⟨a, o, none⟩) k n cap sz = .slice (some ⟨a, if cap = k then o else o + k * sz, none⟩) (n - k) (cap - k) := by
  unfold sliced
  by_cases e : cap = k
  · simp [e]
  · simp [e, addr_add]
section
variable {N : Type} {own : N → Res} {nm : DN → N} {g : Nat} {d : Ds} {v : DV} {wb w : World}
theorem Sep.cutRow (h : Sep wb w own) {n : N} {T sz k cap a o : Nat} {xs : List Value} (hn : own n = .row T sz (.slice (some ⟨a, o, none⟩) k cap) k xs) (j : Nat) (hj : j ≤ k) : Sep wb w (upd own n (.row T sz (.slice (some ⟨a, if cap = j then o else o + j * sz, none⟩) (k - j) (cap - j)) (k - j) (xs.drop (j * sz)))) := by
  have ho : OwnAt w T sz (.slice (some ⟨a, o, none⟩) k cap) k xs := h.get hn
  have ho2 := ho.from j hj
  rw [sliced_at] at ho2
  refine h.put n _ h.base (Nat.le_refl _) (fun _ _ _ _ => rfl) ho2 (fun b hb => ⟨.inl ?_, ho2.lt b hb⟩)
  rw [hn]; exact hb
/-- The first control frame has left. -/
theorem DevAt.pop (h : DevAt own nm g d v) (hs : Sep wb w own) {f : Nat × Nat × Nat × Bytes} {r : List (Nat × Nat × Nat × Bytes)} (hc : d.ctl = f :: r) {a o cap n : Nat} (hn : n = r.length) (hv : v.vC = .slice (some ⟨a, o, none⟩) (n + 1) cap) :
    ∃ own', Sep wb (w.setCell ⟨g, 12, none⟩ (.slice (some ⟨a, if cap = 1 then o else o + 4, none⟩) n (cap - 1))) own' ∧ DevAt own' nm g { d with ctl := r } { v with vC := .slice (some ⟨a, if cap = 1 then o else o + 4, none⟩) n (cap - 1), fr := v.fr.drop 1, b := v.b + 1 } ∧ SameD nm own own' := by
  have hl : d.ctl.length = n + 1 := by rw [hc, hn]; rfl
  have s1 := hs.drop (nm (.fr v.b))
  have c1 : upd own (nm (.fr v.b)) .none (nm .ctl) = .row 90 4 (.slice (some ⟨a, o, none⟩) (n + 1) cap) (n + 1) (frCells d.ctl v.fr) := by
    rw [upd_dn h.inj, if_neg (by simp), h.res]
    show Res.row _ _ _ _ _ = _
    rw [hv, hl]
  have s2 := s1.cutRow c1 1 (by omega)
  rw [show n + 1 - 1 = n by omega, Nat.one_mul, frCells_drop _ _ h.frl] at s2
  have h3 := h.popCtl (.slice (some ⟨a, if cap = 1 then o else o + 4, none⟩) n (cap - 1))
  have el : (d.ctl.drop 1).length = n := by rw [List.length_drop, hl]; omega
  rw [el] at h3
  have c2 : upd (upd own (nm (.fr v.b)) .none) (nm .ctl) (.row 90 4 (.slice (some ⟨a, if cap = 1 then o else o + 4, none⟩) n (cap - 1)) n (frCells (d.ctl.drop 1) (v.fr.drop 1))) (nm .conn) = .obj g (.cells (connD d v) 78 (0, 0)) := by
    rw [upd_dn h.inj, if_neg (by simp), upd_dn h.inj, if_neg (by simp)]; exact h.conn
  have s3 := s2.setObj c2 12 (.slice (some ⟨a, if cap = 1 then o else o + 4, none⟩) n (cap - 1))
  have er : d.ctl.drop 1 = r := by rw [hc]; rfl
  rw [er] at h3 s3
  exact ⟨_, s3, h3, (((SameD.refl nm own).upd _ _).upd _ _).upd _ _⟩
end
theorem turn_none {d : Ds} {s : DS} (room : Int) (h : (d.turn s room).1.length = 0) : (d.turn s room).2.1 = d := by
  have hh : ∀ (id fuel kind : Nat) (b : Bytes), (Ds.hframes id fuel kind b).length ≠ 0 := fun id fuel kind b => by
    cases fuel with
    | zero => unfold Ds.hframes; rw [frame_len]; omega
    | succ f =>
      unfold Ds.hframes
      split
      · rw [List.length_append, frame_len]; omega
      · rw [frame_len]; omega
  unfold Ds.turn at h ⊢
  dsimp only at h ⊢
  split at h
  · rename_i hb
    rw [if_pos hb]
    split at h
    · rename_i hl; rw [if_pos hl]
    · exact absurd h (hh _ _ _ _)
  · rename_i hb
    rw [if_neg hb]
    split at h
    · rename_i ht
      rw [if_pos ht]
      split at h
      · rename_i hl; rw [if_pos hl]
      · exact absurd h (by dsimp only; rw [frame_len]; omega)
    · rename_i ht
      rw [if_neg ht]
      split at h
      · rename_i hl; rw [if_pos hl]
      · split at h
        · exact absurd h (by dsimp only; rw [frame_len]; omega)
        · exact absurd h (by dsimp only; rw [frame_len]; omega)
/-- What Out answers, and leaves. -/
def ROut {N : Type} (nm : DN → N) (g : Nat) (wb : World) (own : N → Res) (v : DV) (t : Ds × Bytes) (e : Ending) (w' : World) : Prop :=
  ∃ (vo : Value) (own' : Option N → Res) (v' : DV), e = .returned vo ∧ Sep wb w' own' ∧ DevAt own' (fun x => some (nm x)) g t.1 v' ∧ own' none = .row 5 1 vo t.2.length (bcells t.2) ∧ (∀ n, (∀ x, n ≠ nm x) → own' (some n) = own n) ∧ v'.rp = v.rp ∧ (t.1.failed = false → v'.vI = v.vI)
/-- How many control frames wait. -/
def ctlLen (g : Nat) (w : World) : Nat := match w.cell? ⟨g, 12, none⟩ with
  | some (.slice _ n _) => n
  | _ => 0
section
variable {N : Type} {own : N → Res} {nm : DN → N} {g : Nat} {d : Ds} {v : DV} {wb w : World}
theorem ctlLen_is (h : DevAt own nm g d v) (hs : Sep wb w own) : ctlLen g w = d.ctl.length := by
  unfold ctlLen
  rw [h.c12 hs]
  obtain ⟨a, cap, e, _⟩ := (h.rowC hs).slice
  rw [e]
theorem outCtl_cons (room : Int) (f : Nat × Nat × Nat × Bytes) (r : List (Nat × Nat × Nat × Bytes)) (out : Bytes) : Ds.outCtl room (f :: r) out = if room - out.length < 6 + f.2.2.2.length then (f :: r, out) else Ds.outCtl room r (out ++ frame f.1 f.2.1 f.2.2.1 f.2.2.2) := by
  obtain ⟨k, fl, i, b⟩ := f
  conv => lhs; unfold Ds.outCtl
theorem outCtl_nil (room : Int) (out : Bytes) : Ds.outCtl room [] out = ([], out) := by unfold Ds.outCtl; rfl
theorem out_stop {d dd : Ds} {room : Int} {out : Bytes} (h1 : dd = { d with ctl := dd.ctl }) (h2 : Ds.outCtl room dd.ctl out = Ds.outCtl room d.ctl []) {f : Nat × Nat × Nat × Bytes} {r : List (Nat × Nat × Nat × Bytes)} (hc : dd.ctl = f :: r) (hr : room - out.length < 6 + f.2.2.2.length) : d.out room = (dd, out) := by
  rw [hc, outCtl_cons, if_pos hr] at h2
  unfold Ds.out
  dsimp only
  rw [← h2]
  dsimp only
  rw [if_neg (by simp), ← hc, ← h1]
theorem out_next {room : Int} {out : Bytes} {c : List (Nat × Nat × Nat × Bytes)} {f : Nat × Nat × Nat × Bytes} {r : List (Nat × Nat × Nat × Bytes)} (hc : c = f :: r) (hr : ¬ room - out.length < 6 + f.2.2.2.length) : Ds.outCtl room c out = Ds.outCtl room r (out ++ frame f.1 f.2.1 f.2.2.1 f.2.2.2) := by
  rw [hc, outCtl_cons, if_neg hr]
theorem out_ring {d dd : Ds} {room : Int} {out : Bytes} (h1 : dd = { d with ctl := dd.ctl }) (h2 : Ds.outCtl room dd.ctl out = Ds.outCtl room d.ctl []) (hc : dd.ctl = []) : d.out room = Ds.outRing room (room.toNat + 1) dd out := by
  rw [hc, outCtl_nil] at h2
  unfold Ds.out
  dsimp only
  rw [← h2]
  dsimp only
  rw [if_pos (by rfl), ← hc, ← h1]
theorem ring_none {dd : Ds} {room : Int} {out : Bytes} {fuel : Nat} (h : dd.turned (room - out.length) = none) : Ds.outRing room fuel dd out = (dd, out) := by
  cases fuel with
  | zero => rfl
  | succ f => unfold Ds.outRing; rw [h]
theorem ring_some {dd d2 : Ds} {room : Int} {out b : Bytes} {fuel : Nat} (h : dd.turned (room - out.length) = some (b, d2)) : Ds.outRing room (fuel + 1) dd out = Ds.outRing room fuel d2 (out ++ b) := by
  conv => lhs; unfold Ds.outRing
  rw [h]
theorem turned_none {dd : Ds} (room : Int) (h : dd.ready = none) : dd.turned room = none := by unfold Ds.turned; rw [h]
theorem turned_some {dd : Ds} (room : Int) {k : Nat} (h : dd.ready = some k) {s : DS} (hs : dd.stOf (dd.ring.getD k 0) = s) : dd.turned room = if (dd.turn s room).1.length = 0 then none else some ((dd.turn s room).1, (dd.turn s room).2.1.leave k (dd.turn s room).2.2) := by
  unfold Ds.turned; rw [h]; dsimp only; rw [hs]

theorem DevAt.updO (h : DevAt own nm g d v) {n : N} (hn : ∀ x, nm x ≠ n) (r : Res) : DevAt (upd own n r) nm g d v :=
  ⟨h.inj, fun x => by rw [upd_ne own r (hn x)]; exact h.res x, h.frl, h.mapM, h.mapT, h.wf, h.nilB, h.nilH⟩
theorem cell_new (w : World) (cs : Array Value) (T k : Nat) : (w.alloc (.cells cs T (0, 0))).cell? ⟨w.heap.size, k, none⟩ = cs[k]? := by
  have h2 := heap_alloc_new w (.cells cs T (0, 0))
  unfold World.cell?
  rw [h2]
  rfl
theorem OutOk.ctl0 {d : Ds} {c : Nat} (h : OutOk d c) : OutOk { d with ctl := [] } c := by
  have f := h.fits
  have := f.ctl
  exact ⟨⟨f.mLast, f.tLast, f.mMost, f.tMost, f.mCount0, f.mCount1, f.tCount0, f.tCount1, f.from0, f.from1, f.to0, f.to1, by show 0 + 1000 * (tellsN d + 1 + c) ≤ 68719476736; omega, f.ring, f.ev, f.inn, f.pings, f.coming, fun _ hx => absurd hx (by simp), f.st⟩, h.ids⟩

set_option maxHeartbeats 12800000 in
theorem d_Out_any (h : DevAt own nm g d v) (hs : Sep wb w own) (hf : OutOk d) (hck : ∀ f ∈ d.ctl, f.1 ≤ 255 ∧ f.2.1 ≤ 255) (room : Int) (hr0 : -9223372036854775808 ≤ room) (hr1 : room ≤ 17592186044416) :
    Calls Try.prog 16 #[.pointer (some ⟨g, 0, none⟩), .int .i64 room] w (ROut nm g wb own v (d.out room)) := by
  obtain ⟨i0, hi0, hz0, hz1, hz2⟩ := info_parts' Try.infoU
  have S0 : Sep wb w (lift own (.row 5 1 (.slice none 0 0) 0 [])) := hs.liftRow (Ext.refl w) (OwnAt.nil _ _ _) (fun b hb => by simp [Value.ownBlock] at hb)
  have H0 := h.lift (.row 5 1 (.slice none 0 0) 0 [])
  have HCK := hide hck
  have HOK := hide hf
  clear hck
  obtain ⟨T, hT⟩ : ∃ T, T = d.out room := ⟨_, rfl⟩
  rw [← hT]
  have HT := hide hT
  clear hT
  go_enter Try.func16, Try.ntmps16
  go_wp2
  go_loopw [5] (fun vo wr => ∃ (dd : Ds) (out : Bytes) (own' : Option N → Res) (v' : DV), Sep wb wr own' ∧ DevAt own' (fun x => some (nm x)) g dd v' ∧ own' none = .row 5 1 vo out.length (bcells out) ∧ (∀ n, (∀ x, n ≠ nm x) → own' (some n) = own n) ∧ v'.rp = v.rp ∧ v'.vI = v.vI ∧ Hid (dd = { d with ctl := dd.ctl } ∧ Ds.outCtl room dd.ctl out = Ds.outCtl room d.ctl [] ∧ (out = [] ∨ (out.length : Int) ≤ room) ∧ (∀ f ∈ dd.ctl, f ∈ d.ctl))) (fun _ wr => ctlLen g wr)
  case atStart => exact ⟨d, [], _, v, S0, H0, rfl, fun _ _ => rfl, rfl, rfl, rfl, rfl, .inl rfl, fun _ hf => hf⟩
  case round =>
    obtain ⟨dd, out, owno, vd, so, ho, no, eo, ro, io, HP⟩ := hrel
    clear S0 H0 hs h
    have hO := (show OwnAt wr 5 1 _ out.length (bcells out) from so.get no)
    obtain ⟨ao, co, hvo, hco1, hco2⟩ := hO.slice
    subst hvo
    have c12 := ho.c12 so
    have hLC := ctlLen_is ho so
    have hob : (out.length : Int) ≤ 17592186044416 ∧ -9223372036854775808 ≤ room - (out.length : Int) := by
      rcases HP.out.2.2.1 with e | e
      · rw [e]; simp; omega
      · omega
    obtain ⟨hol, hrb⟩ := hob
    cases hcc : dd.ctl with
    | nil =>
      have HTR : Hid (Ds.outRing room (room.toNat + 1) dd out = T) := by
        show _ = _
        rw [HT.out]
        exact (out_ring HP.out.1 HP.out.2.1 hcc).symm
      have hOK : OutOk dd := by
        have e := HP.out.1
        rw [hcc] at e
        rw [e]
        exact HOK.out.ctl0
      have hlen : dd.ctl.length = 0 := by rw [hcc]; rfl
      obtain ⟨ac, cc, hvc, -, -⟩ := (ho.rowC so).slice
      rw [hvc, hlen] at c12
      have hsm : out = [] ∨ (out.length : Int) ≤ room := HP.out.2.2.1
      have HSM := hide hsm
      clear hvc hlen hcc hLC HT HP HOK HCK hsm
      have hmf : ∀ (fn : Fn) (first cap : Array Value) (w : World), (Instr.makeFunc fn first cap).run Try.prog w = .ok (.func fn first cap) w := fun _ _ _ _ => rfl
      go_wp2
      go_loopw [5] (fun vo wr => ∃ (dd : Ds) (out : Bytes) (own' : Option N → Res) (v' : DV) (fuel : Nat), Sep wb wr own' ∧ DevAt own' (fun x => some (nm x)) g dd v' ∧ own' none = .row 5 1 vo out.length (bcells out) ∧ (∀ n, (∀ x, n ≠ nm x) → own' (some n) = own n) ∧ v'.rp = v.rp ∧ (dd.failed = false → v'.vI = v.vI) ∧ OutOk dd ∧ Hid ((room - (out.length : Int)).toNat < fuel ∧ Ds.outRing room fuel dd out = T ∧ (out = [] ∨ (out.length : Int) ≤ room))) (fun vo _ => (room - (lenOf vo : Int)).toNat)
      case atStart => exact ⟨dd, out, owno, vd, room.toNat + 1, so, ho, no, eo, ro, fun _ => io, hOK, by omega, HTR.out, HSM.out⟩
      case round =>
        clear so ho no eo ro io hOK HTR HSM c12 hO hol hrb hco1 hco2
        obtain ⟨d2, o2, own2, v2, fuel, S2, H2, n2, e2, r2, i2, OK2, HP2⟩ := hrel
        have hO2 := (show OwnAt wr 5 1 _ o2.length (bcells o2) from S2.get n2)
        obtain ⟨a2, k2, hv2, hk1, hk2⟩ := hO2.slice
        subst hv2
        have hob : (o2.length : Int) ≤ 17592186044416 ∧ -9223372036854775808 ≤ room - (o2.length : Int) ∧ room - (o2.length : Int) ≤ 9223372036854775807 := by
          rcases HP2.out.2.2 with e | e
          · rw [e]; simp; omega
          · omega
        obtain ⟨hol, hrb, hrc⟩ := hob
        have c13 := H2.c13 S2
        have kI := sl_IndexFunc_canGo H2 S2
        obtain ⟨aR, cR, hvR, -, -⟩ := (H2.rowR S2).slice
        have HVR := hide hvR
        rw [hvR] at c13 kI
        clear hvR
        cases hrd : d2.ready with
        | none =>
          have e : idxP d2.ring (fun n => d2.canGo (d2.stOf n)) = -1 := by unfold idxP; unfold Ds.ready at hrd; rw [hrd]
          rw [e] at kI
          have HR : Hid ((d2, o2) = T) := by
            show _ = _
            rw [← HP2.out.2.1]
            exact (ring_none (turned_none _ hrd)).symm
          clear hrd e
          go_wp2_with fail
          refine kI.mono ?_
          rintro e w3 ⟨rfl, he3⟩
          go_wp2
          go_ret
          rw [← HR.out]
          exact ⟨_, own2, v2, rfl, S2.ext he3, H2, n2, e2, r2, i2⟩
        | some k =>
          have e : idxP d2.ring (fun n => d2.canGo (d2.stOf n)) = (k : Int) := by unfold idxP; unfold Ds.ready at hrd; rw [hrd]
          rw [e] at kI
          have hk : k < d2.ring.length := by
            unfold Ds.ready at hrd
            rw [List.findIdx?_eq_some_iff_getElem] at hrd
            exact hrd.1
          obtain ⟨s, hs⟩ := H2.wf.rings (d2.ring.getD k 0) (by rw [List.getD_eq_getElem?_getD, List.getElem?_eq_getElem hk]; exact List.getElem_mem hk)
          have hid : s.id = d2.ring.getD k 0 := H2.wf.ids _ _ hs
          have hs' : d2.str s.id = some s := by rw [hid]; exact hs
          have hso := stOf_some hs
          have hTD := turned_some (room - (o2.length : Int)) hrd hso
          clear e hrd hso
          obtain ⟨aR', oR, cR', hvR', -, -, hcell⟩ := (H2.rowR S2).at (by omega)
          rw [HVR.out] at hvR'
          simp only [Value.slice.injEq] at hvR'
          obtain ⟨rfl, -, rfl⟩ := hvR'
          have fk : wr.cell? ⟨aR', oR + k, none⟩ = some (.pointer (some ⟨v2.ptr s.id, 0, none⟩)) := by
            rw [hid]
            exact (hcell k (by omega)).trans (ptrCells_at d2.ring v2.ptr k hk)
          have hkl : (k : Int) < (d2.ring.length : Int) := by omega
          have hk0 : decide ((k : Int) < 0) = false := by simp
          have KT := hide (fun (u : World) (hu : Ext wr u) => d_turn_any H2 (S2.ext hu) (OK2.fits.mono (by omega)) hs' (OK2.ids _ _ hs).2 (room - (o2.length : Int)) hrb hrc)
          have HTL := hide (turn_len OK2 hs' (room - (o2.length : Int)))
          have HTN := hide (turn_none (d := d2) (s := s) (room - (o2.length : Int)))
          have HTO := hide (OK2.turn hk hs (room - (o2.length : Int)))
          have HTG := hide (turn_ring d2 s (room - (o2.length : Int)))
          have HTD := hide hTD
          have HTK := hide (turn_keep d2 s (room - (o2.length : Int)))
          have HID := hide hid
          clear hcell hTD hid hs'
          generalize htt : d2.turn s (room - (o2.length : Int)) = t at *
          clear htt
          generalize hon : o2.length = on at *
          have HON := hide hon
          clear hon
          go_wp2_with fail
          refine kI.mono ?_
          rintro e w3 ⟨rfl, he3⟩
          have c13' := he3.cell c13
          have fk' := he3.cell fk
          have kt := KT.out w3 he3
          go_wp2_with fail
          refine kt.mono ?_
          rintro e w4 ⟨vf, rfl, hBf, hLf⟩
          have hsrc := src_isB hBf
          obtain ⟨af, kf, hvf, hkf1, hkf2, -⟩ := hBf
          subst hvf
          obtain ⟨own5, v5, S5, H5, E5, r5, i5, -⟩ := hLf
          have n5 : own5 none = .row 5 1 (.slice a2 on k2) on (bcells o2) := (E5 none (fun x e => by cases e)).trans n2
          have e5 : ∀ n, (∀ x, n ≠ nm x) → own5 (some n) = own n := fun n hn => (E5 (some n) (fun x e => hn x (by injection e))).trans (e2 n hn)
          have r5' : v5.rp = v.rp := r5.trans r2
          have i5' : t.2.1.failed = false → v5.vI = v.vI := fun hx => (i5 hx).trans (i2 (by rw [← HTK.out.1]; exact hx))
          clear S2 H2 E5 n2 e2 r2 i2 r5 i5 c13 c13' fk fk' kt KT hO2 kI
          generalize htn : t.1.length = tn at *
          have HTNN := hide htn
          clear htn
          by_cases hz : tn = 0
          · have HR : Hid ((d2, o2) = T) := by
              show _ = _
              rw [← HP2.out.2.1]
              refine (ring_none ?_).symm
              rw [HON.out, HTD.out, if_pos hz]
            have H5' : DevAt own5 (fun x => some (nm x)) g d2 v5 := by rw [← HTN.out hz]; exact H5
            have i5'' : d2.failed = false → v5.vI = v.vI := fun hx => i5' (by rw [HTN.out hz]; exact hx)
            have hz2' : ((tn : Int) == 0) = true := by rw [hz]; rfl
            clear H5 i5'
            go_wp2
            go_ret
            rw [← HR.out]
            exact ⟨_, own5, v5, rfl, S5, H5', by rw [n5, ← HON.out]; rfl, e5, r5', i5''⟩
          · have hz2' : ((tn : Int) == 0) = false := by rw [beq_eq_false_iff_ne]; omega
            have hO5 : OwnAt w4 5 1 (.slice a2 on k2) on (bcells o2) := S5.get n5
            have hroom : (tn : Int) ≤ room - (on : Int) := by
              rcases HTL.out with e | e
              · exact absurd e hz
              · exact e
            obtain ⟨m, fm, tm, im, idm, sm⟩ := HTO.out hz
            have hkr : k < t.2.1.ring.length := by rw [HTG.out]; exact hk
            have hidr : t.2.2.id = t.2.1.ring.getD k 0 := by rw [HTG.out, idm, HID.out]
            have hsr : t.2.1.str (t.2.1.ring.getD k 0) = some t.2.2 := by rw [HTG.out, ← HID.out]; exact sm
            have HLO := hide (leave_ok hkr hidr fm tm im)
            have HLF := hide (leave_keep t.2.1 k t.2.2)
            have HKL := hide (fun (u : World) (ow : Option N → Res) (SS : Sep wb u ow) (HH : DevAt ow (fun x => some (nm x)) g t.2.1 v5) => d_leave_any HH SS (fm.mono (by omega)) k hkr hsr)
            clear sm idm im tm fm hsr hidr hkr
            go_wp2_with (at_builtin; refine wpList_append_at _ rfl (.tmp 67) (.tmp 68) 22 22 rfl 5 i0 (.int .u8 0) 1 1 Try.underlying22 hi0 hz0 hz1 hz2 rfl _ _ _ rfl hO5 _ _ _ rfl hsrc ?_ ?_ ?_)
            · unfold maxLen; omega
            · omega
            intro v6 w6 hO6 hG6
            have hNL : on + tn = (o2 ++ t.1).length := by rw [List.length_append, HON.out, HTNN.out]
            have hO7 := cut_len hO6 hNL (bcells_append o2 t.1).symm
            have S6 := S5.grew n5 hG6 hO7
            have H6 := H5.updO (n := none) (fun x e => by cases e) (.row 5 1 v6 (o2 ++ t.1).length (bcells (o2 ++ t.1)))
            have kl := HKL.out w6 _ S6 H6
            obtain ⟨a6, k6, hv6, -, -⟩ := hO7.slice
            subst hv6
            have HNL := hide hNL
            have HN6 : Hid (upd own5 none (.row 5 1 (.slice a6 (o2 ++ t.1).length k6) (o2 ++ t.1).length (bcells (o2 ++ t.1))) none = .row 5 1 (.slice a6 (o2 ++ t.1).length k6) (o2 ++ t.1).length (bcells (o2 ++ t.1))) := upd_at _ _ _
            have HE6 : Hid (∀ n, (∀ x, n ≠ nm x) → upd own5 none (.row 5 1 (.slice a6 (o2 ++ t.1).length k6) (o2 ++ t.1).length (bcells (o2 ++ t.1))) (some n) = own n) := fun n hn => (upd_ne _ _ (fun e => by cases e)).trans (e5 n hn)
            generalize hw6 : upd own5 none (.row 5 1 (.slice a6 (o2 ++ t.1).length k6) (o2 ++ t.1).length (bcells (o2 ++ t.1))) = own6 at *
            have HPN : Hid (∃ f, (room - ((o2 ++ t.1).length : Int)).toNat < f ∧ Ds.outRing room f (t.2.1.leave k t.2.2) (o2 ++ t.1) = T ∧ (o2 ++ t.1 = [] ∨ ((o2 ++ t.1).length : Int) ≤ room)) := by
              obtain ⟨p1, p2, p3⟩ := HP2.out
              obtain ⟨f, rfl⟩ : ∃ f, fuel = f + 1 := ⟨fuel - 1, by omega⟩
              have e := ring_some (fuel := f) (dd := d2) (d2 := t.2.1.leave k t.2.2) (room := room) (out := o2) (b := t.1) (by rw [HON.out, HTD.out, if_neg hz])
              refine ⟨f, by omega, by rw [← e]; exact p2, .inr (by omega)⟩
            clear hO6 hO7 hG6 S5 H5 n5 hO5 hsrc S6 H6 hNL hw6 HKL
            generalize hNB : o2 ++ t.1 = NB at *
            clear hNB
            go_wp2_with fail
            refine kl.mono ?_
            rintro e w7 ⟨rfl, own7, v7, S7, H7, E7, r7, i7, -⟩
            have n7 := (E7 none (fun x e => by cases e)).trans HN6.out
            have e7 : ∀ n, (∀ x, n ≠ nm x) → own7 (some n) = own n := fun n hn => (E7 (some n) (fun x e => hn x (by injection e))).trans (HE6.out n hn)
            have i7' : (t.2.1.leave k t.2.2).failed = false → v7.vI = v.vI := fun hx => (i7 hx).trans (i5' (by rw [← HLF.out.1]; exact hx))
            obtain ⟨f, hP⟩ := HPN.out
            have hNN := HNL.out
            go_wp2
            go_roundw
            case rel => exact ⟨_, NB, own7, v7, f, S7, H7, n7, e7, r7.trans r5', i7', HLO.out, hP⟩
            case measure =>
              show (room - (NB.length : Int)).toNat < (room - (on : Int)).toNat
              omega
    | cons f r =>
      obtain ⟨k, fl, i, b⟩ := f
      have hlen : dd.ctl.length = r.length + 1 := by rw [hcc]; rfl
      have hR := ho.rowC so
      obtain ⟨ac, oc, cc, hvc, hc1, hc2, hcell⟩ := hR.at (by omega)
      obtain ⟨y, ys, hfr⟩ : ∃ y ys, vd.fr = y :: ys := by
        have hl := ho.frl
        cases e : vd.fr with
        | nil => rw [e, hlen] at hl; simp at hl
        | cons y ys => exact ⟨y, ys, rfl⟩
      have hcells : frCells dd.ctl vd.fr = .int .i64 (k : Int) :: .int .i64 (fl : Int) :: .int .i64 (i : Int) :: y :: frCells r ys := by rw [hcc, hfr]; rfl
      rw [hcells] at hcell
      have k0 : wr.cell? ⟨ac, oc, none⟩ = some (.int .i64 (k : Int)) := hcell 0 (by omega)
      have k1 : wr.cell? ⟨ac, oc + 1, none⟩ = some (.int .i64 (fl : Int)) := hcell 1 (by omega)
      have k2 : wr.cell? ⟨ac, oc + 2, none⟩ = some (.int .i64 (i : Int)) := hcell 2 (by omega)
      have k3 : wr.cell? ⟨ac, oc + 3, none⟩ = some y := hcell 3 (by omega)
      have hnb : owno (some (nm (.fr vd.b))) = .row 5 1 y b.length (bcells b) := by
        rw [ho.res]
        simp [devRes, hcc, hfr]
      have hOb : OwnAt wr 5 1 y b.length (bcells b) := so.get hnb
      obtain ⟨ay, cy, hy, hcy1, hcy2⟩ := hOb.slice
      subst hy
      have hfm := HP.out.2.2.2 (k, fl, i, b) (by rw [hcc]; simp)
      obtain ⟨hbl, hil⟩ := HOK.out.fits.bodies _ hfm
      obtain ⟨hkl, hfll⟩ := HCK.out _ hfm
      dsimp only at hbl hil hkl hfll
      rw [hvc, hlen] at c12
      have ks := d_Size_any (wr.alloc (.cells #[.int .i64 (k : Int), .int .i64 (fl : Int), .int .i64 (i : Int), .slice ay b.length cy] 90)) k fl i ay b.length cy (by omega)
      unfold frV at ks
      have hcn := cell_new wr #[.int .i64 (k : Int), .int .i64 (fl : Int), .int .i64 (i : Int), .slice ay b.length cy] 90
      have HCN := hide hcn
      have HHC := hide hcc
      have HVC := hide hvc
      have HLN := hide hlen
      have HNB := hide hnb
      have HOB := hide hOb
      have hrl : (0 : Int) ≤ (r.length : Int) := by omega
      have HHO := hide hO
      clear hcn hcell hcells hfr hcc hvc hlen hR hfm hnb hOb hO
      generalize hbn : b.length = bn at *
      generalize hon : out.length = on at *
      have HBN := hide hbn
      have HON := hide hon
      clear hbn hon
      by_cases hlt : room - (on : Int) < 6 + (bn : Int)
      · have HR : Hid (T = (dd, out)) := by
          show T = _
          rw [HT.out]
          exact out_stop HP.out.1 HP.out.2.1 HHC.out (by rw [HON.out]; show _ < 6 + (b.length : Int); rw [HBN.out]; exact hlt)
        go_wp2_with fail
        refine ks.mono ?_
        rintro e w2 ⟨rfl, he2⟩
        have hext := ((Ext.refl wr).alloc (.cells #[.int .i64 (k : Int), .int .i64 (fl : Int), .int .i64 (i : Int), .slice ay bn cy] 90)).trans he2
        go_wp2
        go_ret
        rw [HR.out]
        exact ⟨_, owno, vd, rfl, so.ext hext, ho, by rw [no, ← HON.out]; rfl, eo, ro, fun _ => io⟩
      · have HN2 : Hid (Ds.outCtl room r (out ++ frame k fl i b) = Ds.outCtl room d.ctl []) := by
          show _ = _
          rw [← HP.out.2.1]
          exact (out_next (f := (k, fl, i, b)) HHC.out (by rw [HON.out]; show ¬ _ < 6 + (b.length : Int); rw [HBN.out]; exact hlt)).symm
        have hrun : ∀ W : World, (Instr.slice 73 (.slice (some ⟨ac, oc, none⟩) (r.length + 1) cc) (some (.int .i64 1)) none none).run Try.prog W = .ok (.slice (some ⟨ac, if cc = 1 then oc else oc + 4, none⟩) r.length (cc - 1)) W := fun W => by
          rw [run_slice_l W 73 _ _ cc (by rw [elem_frs]; exact Try.underlying73) .i64 1 (by omega) (by omega), elem_frs, size_fr]
          show Result.ok (sliced (some ⟨ac, oc, none⟩) 1 (r.length + 1) cc 4) W = _
          rw [sliced_at]
          rfl
        go_wp2_with fail
        refine ks.mono ?_
        rintro e w2 ⟨rfl, he2⟩
        have hext := ((Ext.refl wr).alloc (.cells #[.int .i64 (k : Int), .int .i64 (fl : Int), .int .i64 (i : Int), .slice ay bn cy] 90)).trans he2
        have q0 : w2.cell? ⟨wr.heap.size, 0, none⟩ = some (.int .i64 (k : Int)) := he2.cell (HCN.out 0)
        have q1 : w2.cell? ⟨wr.heap.size, 1, none⟩ = some (.int .i64 (fl : Int)) := he2.cell (HCN.out 1)
        have q2 : w2.cell? ⟨wr.heap.size, 2, none⟩ = some (.int .i64 (i : Int)) := he2.cell (HCN.out 2)
        have q3 : w2.cell? ⟨wr.heap.size, 3, none⟩ = some (.slice ay bn cy) := he2.cell (HCN.out 3)
        have hO2 := HHO.out.ext hext
        have hB2 := HOB.out.ext hext
        rw [← HON.out] at hO2
        rw [← HBN.out] at hB2
        have ka := d_Append_any w2 k fl i (.slice ay b.length cy) b out (.slice ao out.length co) hO2 (by rw [HON.out]; omega) (by rw [HBN.out]; omega) hkl hfll hil (fun u v' hg => hB2.isBytes.kept (fun bb hbb => by
          have hlow : bb < w2.heap.size := hB2.lt bb hbb
          refine hg.grown.block bb hlow (fun e => ?_)
          have := so.apart (some (nm (.fr vd.b))) none bb (by rw [HNB.out]; rw [← HBN.out]; exact hbb) (by rw [no, ← HON.out]; exact e.symm)
          cases this))
        unfold frV at ka
        rw [HON.out, HBN.out] at ka
        have S2 := so.ext hext
        clear so k0 k1 k2 k3 c12 hO2 hB2
        go_wp2_with fail
        refine ka.mono ?_
        rintro e w3 ⟨v3, rfl, hO3, hG3⟩
        have S3 := S2.grew no hG3 hO3
        have H3 := ho.updO (n := none) (fun x e => by cases e) (.row 5 1 v3 (out ++ frame k fl i b).length (bcells (out ++ frame k fl i b)))
        have c12 := H3.c12 S3
        have t12 := H3.thaw S3 12
        rw [HVC.out, HLN.out] at c12
        obtain ⟨own4, S4, H4, E4⟩ := H3.pop S3 HHC.out (n := r.length) rfl (by rw [HVC.out, HLN.out])
        have hLC4 := ctlLen_is H4 S4
        have n4 : own4 none = .row 5 1 v3 (out ++ frame k fl i b).length (bcells (out ++ frame k fl i b)) := (E4 none (fun x e => by cases e)).trans (upd_at _ _ _)
        have e4 : ∀ n, (∀ x, n ≠ nm x) → own4 (some n) = own n := fun n hn => (E4 (some n) (fun x e => hn x (by injection e))).trans ((upd_ne _ _ (fun e => by cases e)).trans (eo n hn))
        obtain ⟨a3, k3, hv3, -, -⟩ := hO3.slice
        subst hv3
        have HP4 : Hid (({ dd with ctl := r } : Ds) = { d with ctl := ({ dd with ctl := r } : Ds).ctl } ∧ Ds.outCtl room ({ dd with ctl := r } : Ds).ctl (out ++ frame k fl i b) = Ds.outCtl room d.ctl [] ∧ (out ++ frame k fl i b = [] ∨ ((out ++ frame k fl i b).length : Int) ≤ room) ∧ (∀ f ∈ ({ dd with ctl := r } : Ds).ctl, f ∈ d.ctl)) := by
          refine ⟨?_, HN2.out, .inr ?_, fun f hf => HP.out.2.2.2 f ?_⟩
          · conv => lhs; rw [HP.out.1]
          · rw [List.length_append, frame_len, HON.out, HBN.out]; omega
          · rw [HHC.out]; exact List.mem_cons_of_mem _ hf
        have HHL := HLN.out
        clear hO3 hG3 S2 S3 H3 E4 no ho
        generalize (if cc = 1 then oc else oc + 4) = o9 at *
        generalize hNB : out ++ frame k fl i b = NB at *
        clear hNB
        go_wp2
        go_roundw
        case rel => exact ⟨_, NB, own4, _, S4, H4, n4, e4, ro, io, HP4⟩
        case measure => rw [hLC, HHL]; rw [hLC4]; exact Nat.lt_succ_self _
end
end Go.Proofs.Ytoijpogadkogcaa
namespace Go.Proofs.Ytoijpogadkogcaa
open Go.RowKit
set_option maxRecDepth 100000

section
variable {N : Type} {own : N → Res} {nm : DN → N} {g : Nat} {d : Ds} {v : DV} {wb w : World}
/-- One part more takes a name that was free. -/
theorem Sep.fold {own' : Option N → Res} (h : Sep wb w own') (k : N) : Sep wb w (upd (fun n => own' (some n)) k (own' none)) := by
  refine ⟨h.base, fun n => ?_, fun n m b hn hm => ?_, fun n b hn => ?_⟩
  · by_cases e : n = k
    · subst e; rw [upd_at]; exact h.ok none
    · rw [upd_ne _ _ e]; exact h.ok (some n)
  · by_cases e1 : n = k
    · by_cases e2 : m = k
      · rw [e1, e2]
      · subst e1
        rw [upd_at] at hn
        rw [upd_ne _ _ e2] at hm
        have := h.apart none (some m) b hn hm
        cases this
    · by_cases e2 : m = k
      · subst e2
        rw [upd_at] at hm
        rw [upd_ne _ _ e1] at hn
        have := h.apart (some n) none b hn hm
        cases this
      · rw [upd_ne _ _ e1] at hn
        rw [upd_ne _ _ e2] at hm
        have := h.apart (some n) (some m) b hn hm
        injection this
  · by_cases e : n = k
    · subst e; rw [upd_at] at hn; exact h.low none b hn
    · rw [upd_ne _ _ e] at hn; exact h.low (some n) b hn
theorem DevAt.fold {own' : Option N → Res} (h : DevAt own' (fun x => some (nm x)) g d v) {k : N} (hk : ∀ x, nm x ≠ k) : DevAt (upd (fun n => own' (some n)) k (own' none)) nm g d v := h.unlift.updO hk _
theorem DevAt.alike (h : DevAt own nm g d v) {own2 : N → Res} (e : ∀ x, own2 (nm x) = own (nm x)) : DevAt own2 nm g d v :=
  ⟨h.inj, fun x => (e x).trans (h.res x), h.frl, h.mapM, h.mapT, h.wf, h.nilB, h.nilH⟩
/-- An end, somewhere. -/
def EndAt (own : N → Res) (nm : DN → N) (g : Nat) (d : Ds) : Prop := ∃ v, DevAt own nm g d v ∧ InIs d v
theorem EndAt.alike (h : EndAt own nm g d) {own2 : N → Res} (e : ∀ x, own2 (nm x) = own (nm x)) : EndAt own2 nm g d := by
  obtain ⟨v, h1, h2⟩ := h
  exact ⟨v, h1.alike e, h2⟩
theorem EndAt.updO (h : EndAt own nm g d) {n : N} (hn : ∀ x, nm x ≠ n) (r : Res) : EndAt (upd own n r) nm g d := h.alike (fun x => upd_ne own r (hn x))

theorem outRing_keep (room : Int) : ∀ (fuel : Nat) (d : Ds) (out : Bytes), (Ds.outRing room fuel d out).1.failed = d.failed ∧ (Ds.outRing room fuel d out).1.inn = d.inn
  | 0, d, out => ⟨rfl, rfl⟩
  | fuel + 1, d, out => by
    unfold Ds.outRing
    cases h : d.turned (room - out.length) with
    | none => exact ⟨rfl, rfl⟩
    | some p =>
      obtain ⟨b, d2⟩ := p
      dsimp only
      have ih := outRing_keep room fuel d2 (out ++ b)
      have hk : d2.failed = d.failed ∧ d2.inn = d.inn := by
        unfold Ds.turned at h
        split at h
        · cases h
        · dsimp only at h
          split at h
          · cases h
          · rename_i k _ _
            simp only [Option.some.injEq, Prod.mk.injEq] at h
            rw [← h.2]
            have a1 := leave_keep (d.turn (d.stOf (d.ring.getD k 0)) (room - out.length)).2.1 k (d.turn (d.stOf (d.ring.getD k 0)) (room - out.length)).2.2
            have a2 := turn_keep d (d.stOf (d.ring.getD k 0)) (room - out.length)
            exact ⟨a1.1.trans a2.1, a1.2.1.trans a2.2.1⟩
      exact ⟨ih.1.trans hk.1, ih.2.trans hk.2⟩
theorem out_keep (d : Ds) (room : Int) : (d.out room).1.failed = d.failed ∧ (d.out room).1.inn = d.inn := by
  unfold Ds.out
  dsimp only
  split
  · exact outRing_keep _ _ _ _
  · exact ⟨rfl, rfl⟩

/-- Out: what goes out takes the name k. -/
theorem d_Out_at (h : EndAt own nm g d) (hs : Sep wb w own) (hf : OutOk d) (hck : ∀ f ∈ d.ctl, f.1 ≤ 255 ∧ f.2.1 ≤ 255) (room : Int) (hr0 : -9223372036854775808 ≤ room) (hr1 : room ≤ 17592186044416) (k : N) (hk : ∀ x, nm x ≠ k) :
    Calls Try.prog 16 #[.pointer (some ⟨g, 0, none⟩), .int .i64 room] w fun e w' => ∃ vo own', e = .returned vo ∧ Sep wb w' own' ∧ EndAt own' nm g (d.out room).1 ∧ own' k = .row 5 1 vo (d.out room).2.length (bcells (d.out room).2) ∧ ∀ n, n ≠ k → (∀ x, n ≠ nm x) → own' n = own n := by
  obtain ⟨v, h1, h2⟩ := h
  refine (d_Out_any h1 hs hf hck room hr0 hr1).mono ?_
  rintro e w' ⟨vo, own', v', rfl, S', H', n', e', r', i'⟩
  obtain ⟨k1, k2⟩ := out_keep d room
  refine ⟨vo, _, rfl, S'.fold k, ⟨v', H'.fold hk, fun hx => ?_⟩, by rw [upd_at]; exact n', fun n hn hx => by rw [upd_ne _ _ hn]; exact e' n hx⟩
  rw [r', i' hx, k2]
  exact h2 (by rw [← k1]; exact hx)
/-- In. -/
theorem d_In_at (Good : Ds → Prop) (hG : GoodD Good) (h : EndAt own nm g d) (hs : Sep wb w own) (vb : Value) (b : Bytes) (hb : IsBytes w vb b) (hl : d.failed = false → d.inn.length + b.length ≤ 68719476736) (hc : d.failed = false → Good { d with inn := d.inn ++ b }) :
    Calls Try.prog 19 #[.pointer (some ⟨g, 0, none⟩), vb] w fun e w' => e = .returned (.tuple #[]) ∧ ∃ own', Sep wb w' own' ∧ EndAt own' nm g (d.takes b) ∧ SameD nm own own' := by
  obtain ⟨v, h1, h2⟩ := h
  refine (d_In_any Good hG h1 hs h2 vb b hb hl hc).mono ?_
  rintro e w' ⟨rfl, own', v', S', H', E', I'⟩
  exact ⟨rfl, own', S', ⟨v', H', I'⟩, E'⟩
/-- New. -/
theorem d_New_at (hi : ∀ a b, nm a = nm b → a = b) (h0 : ∀ x, own (nm x) = .none) (hs : Sep wb w own) (client : Bool) (streams : Nat) (hst : streams ≤ 6) :
    Calls Try.prog 18 #[.bool client, .int .i64 (streams : Int)] w fun e w' => ∃ g own', e = .returned (.tuple #[.pointer (some ⟨g, 0, none⟩), .int .i64 0]) ∧ Sep wb w' own' ∧ EndAt own' nm g (Ds.new client streams) ∧ SameD nm own own' := by
  refine (d_New_any hi h0 hs client streams hst).mono ?_
  rintro e w' ⟨g, rfl, own', v', S', H', E', I'⟩
  exact ⟨g, own', rfl, S', ⟨v', H', I'⟩, E'⟩
set_option maxHeartbeats 1600000 in
/-- Events: they take the name k. -/
theorem d_Events_at (h : EndAt own nm g d) (hs : Sep wb w own) (k : N) (hk : ∀ x, nm x ≠ k) :
    Calls Try.prog 20 #[.pointer (some ⟨g, 0, none⟩)] w fun e w' => ∃ ve own', e = .returned ve ∧ Sep wb w' own' ∧ EndAt own' nm g d.asked ∧ own' k = .row 55 3 ve d.ev.length (evCells d.ev) ∧ ∀ n, n ≠ k → (∀ x, n ≠ nm x) → own' n = own n := by
  obtain ⟨v, h1, h2⟩ := h
  have f14 := h1.c14 hs
  have th := h1.thaw hs 14
  obtain ⟨aE, cE, hE, -, -⟩ := OwnAt.slice (h1.rowE hs)
  have s1 := hs.moveOut (h1.res .ev)
  have s2 : Sep wb w (lift (upd own (nm .ev) (.row 55 3 (.slice none 0 0) 0 [])) (.row 55 3 v.vE d.ev.length (evCells d.ev))) := by
    have s1' := s1.nilRow (some (nm .ev)) 55 3
    have e : upd (lift (upd own (nm .ev) .none) (devRes g d v .ev)) (some (nm .ev)) (.row 55 3 (.slice none 0 0) 0 []) = lift (upd own (nm .ev) (.row 55 3 (.slice none 0 0) 0 [])) (.row 55 3 v.vE d.ev.length (evCells d.ev)) := by
      funext n
      cases n with
      | none => exact upd_ne _ _ (fun e => by cases e)
      | some n =>
        by_cases e : n = nm .ev
        · subst e
          rw [upd_at]
          show _ = upd own (nm .ev) _ (nm .ev)
          rw [upd_at]
        · rw [upd_ne _ _ (fun h => e (by injection h))]
          show upd own (nm .ev) .none n = upd own (nm .ev) _ n
          rw [upd_ne _ _ e, upd_ne _ _ e]
    rw [e] at s1'
    exact s1'
  have c2 : lift (upd own (nm .ev) (.row 55 3 (.slice none 0 0) 0 [])) (.row 55 3 v.vE d.ev.length (evCells d.ev)) (some (nm .conn)) = .obj g (.cells (connD d v) 78 (0, 0)) := (upd_dn h1.inj own .ev .conn _).trans ((if_neg (by simp)).trans h1.conn)
  have s3 := s2.setObj c2 14 (.slice none 0 0)
  have s4 := s3.fold k
  have hD := h1.setEv [] (.slice none 0 0)
  have hD2 : DevAt (upd (fun n => upd (lift (upd own (nm .ev) (.row 55 3 (.slice none 0 0) 0 [])) (.row 55 3 v.vE d.ev.length (evCells d.ev))) (some (nm .conn)) (.obj g (.cells ((connD d v).setIfInBounds 14 (.slice none 0 0)) 78 (0, 0))) (some n)) k (upd (lift (upd own (nm .ev) (.row 55 3 (.slice none 0 0) 0 [])) (.row 55 3 v.vE d.ev.length (evCells d.ev))) (some (nm .conn)) (.obj g (.cells ((connD d v).setIfInBounds 14 (.slice none 0 0)) 78 (0, 0))) none)) nm g d.asked { v with vE := .slice none 0 0 } := by
    refine DevAt.alike hD (fun x => ?_)
    rw [upd_ne _ _ (hk x)]
    by_cases e : nm x = nm .conn
    · rw [e, upd_at, upd_at]
    · rw [upd_ne _ _ (fun h => e (by injection h)), upd_ne _ _ e]
      rfl
  have HS := hide s4
  have HD := hide hD2
  have HI : Hid (InIs d.asked { v with vE := .slice none 0 0 }) := fun hx => h2 hx
  have HE := hide hE
  rw [hE] at f14
  clear s1 s2 s3 s4 hD hD2 hE
  go_enter Try.func20, Try.ntmps20
  go_wp2
  go_ret
  refine ⟨_, _, rfl, HS.out, ⟨_, HD.out, HI.out⟩, ?_, fun n hn hx => ?_⟩
  · rw [upd_at, upd_ne _ _ (fun e => by cases e)]
    show Res.row _ _ v.vE _ _ = _
    rw [HE.out]
    rfl
  · rw [upd_ne _ _ hn, upd_ne _ _ (fun h => hx .conn (by injection h))]
    show upd own (nm .ev) _ n = own n
    rw [upd_ne _ _ (hx .ev)]
end

/-! ### an end that begins -/
theorem new_ok (client : Bool) (m : Nat) (hm : m ≤ 60000000) : (Ds.new client 3).Ok m 2 (m + 1) := by
  have f : (bare client 3).Fits (m + 1) := by
    refine ⟨by show 0 ≤ 200; omega, by show 0 ≤ 65535; omega, by show 1 ≤ 255; omega, by show 3 ≤ 255; omega, ?_, ?_, ?_, ?_, by show (0 : Int) ≤ 150; omega, by show (150 : Int) ≤ 1000; omega, by show (0 : Int) ≤ 150; omega, ?_, ?_, ?_, ?_, Nat.zero_le _, Nat.zero_le _, fun i e b hc => (by cases hc), fun f hf => (by cases hf), fun n s hs => (by cases hs)⟩
    · show _ ≤ (0 : Int); omega
    · show (0 : Int) + _ ≤ _; omega
    · show _ ≤ (0 : Int); omega
    · show (0 : Int) + _ ≤ _; omega
    · show (150 : Int) + _ ≤ _; omega
    · show 0 + _ ≤ _; omega
    · show 0 + _ ≤ _; omega
    · show 0 + _ ≤ _; omega
  refine ⟨f.lay 4 0 0 [UInt8.ofNat 3] (by simp) (by omega), fun n s hn => (by cases hn), fun _ _ _ => rfl, fun _ _ _ => rfl, fun _ _ _ hc => (by cases hc), fun f hf => ?_, (by show 0 + m ≤ m + 1; omega), by show 1 + m ≤ m + 1; omega⟩
  have : f = (4, 0, 0, [UInt8.ofNat 3]) := by
    have h : f ∈ [(4, 0, 0, [UInt8.ofNat 3])] := hf
    simpa using h
  rw [this]
  exact ⟨by show 4 ≤ 255; omega, Nat.zero_le _⟩
theorem new_out (client : Bool) : (Ds.new client 3).out 99 = ({ (Ds.new client 3) with ctl := [] }, [0, 1, 4, 0, 0, 0, 3]) := by
  cases client <;> rfl
theorem Ds.Ok.ctl0 {d : Ds} {m : Nat} {q : Nat} {B : Nat} (h : d.Ok m q B) : Ds.Ok { d with ctl := [] } m q B := by
  have f := h.fits
  have := f.ctl
  exact h.same ⟨f.mLast, f.tLast, f.mMost, f.tMost, f.mCount0, f.mCount1, f.tCount0, f.tCount1, f.from0, f.from1, f.to0, f.to1, by show 0 + 1000 * m ≤ 68719476736; omega, f.ring, f.ev, f.inn, f.pings, f.coming, fun _ hx => absurd hx (by simp), f.st⟩ rfl rfl rfl rfl rfl (fun _ hx => absurd hx (by simp)) (Nat.le_refl _) (by show 0 + m ≤ _; omega)
theorem Ds.Ok.asked {d : Ds} {m : Nat} {q : Nat} {B : Nat} (h : d.Ok m q B) : d.asked.Ok m q B := by
  have f := h.fits
  have := f.ev
  exact h.same ⟨f.mLast, f.tLast, f.mMost, f.tMost, f.mCount0, f.mCount1, f.tCount0, f.tCount1, f.from0, f.from1, f.to0, f.to1, f.ctl, f.ring, by show 0 + 1000 * m ≤ 68719476736; omega, f.inn, f.pings, f.coming, f.bodies, f.st⟩ rfl rfl rfl rfl rfl (fun _ hx => .inl hx) (Nat.le_refl _) (Nat.le_refl _)
theorem Ds.Ok.outOk {d : Ds} {m q B : Nat} (h : d.Ok m q B) (hq : 1 ≤ q) {c : Nat} (hm : B + 1 + c ≤ 2 * m) : OutOk d c := by
  have h1 : tellsN d ≤ d.ring.length := List.length_filter_le _ _
  have h2 := h.rb
  exact ⟨h.fits.mono (by omega), fun n s hn => ⟨(h.ids n s hn).1, (h.ids n s hn).2.2.1 hq⟩⟩
/-- What has come of a frame is no more than came. -/
theorem takes_inn (d : Ds) (b : Bytes) (h0 : d.inn = []) (hf : (d.takes b).failed = false) : (d.takes b).inn.length ≤ b.length := by
  unfold Ds.takes at hf ⊢
  by_cases h : d.failed = true
  · rw [if_pos h, h0]; exact Nat.zero_le _
  · rw [if_neg h] at hf ⊢
    dsimp only at hf ⊢
    rcases dlooks_short ((d.inn ++ b).length + 1) { d with inn := d.inn ++ b } with e | e
    · rw [e] at hf; cases hf
    · have e2 : ({ d with inn := d.inn ++ b } : Ds).inn.length = b.length := by show (d.inn ++ b).length = _; rw [h0]; rfl
      omega
theorem takes_nil (d : Ds) (h0 : d.inn = []) : d.takes [] = d := by
  unfold Ds.takes
  split
  · rfl
  · dsimp only
    rw [List.append_nil, dlooks_stop _ _ (.inr (by rw [h0]; show 0 < 6; omega))]
end Go.Proofs.Ytoijpogadkogcaa
