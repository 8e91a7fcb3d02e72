/-
  Plain mathematics of packed headers: how a header is packed, how bytes are read back, that what is packed is read back, and that what was read is packed in no more bytes. No Go, no memory.
-/
namespace Go.Proofs.YtoijpogadkogcaaGreat

def nameB (c : UInt8) : Bool := (97 ≤ c && c ≤ 122) || (48 ≤ c && c ≤ 57) || c == 45
def okName (l : List UInt8) : Bool := decide (1 ≤ l.length) && decide (l.length ≤ 20) && (l.drop (if l.head? = some 58 ∧ 1 < l.length then 1 else 0)).all nameB
def valB (c : UInt8) : Bool := 32 ≤ c && c ≤ 126
def okValue (l : List UInt8) : Bool := decide (l.length ≤ 60) && l.all valB
def okPair (p : List UInt8 × List UInt8) : Bool := okName p.1 && okValue p.2

def tbl : List (List UInt8 × List UInt8) :=
  [([58, 109, 101, 116, 104, 111, 100], [71, 69, 84]), ([58, 109, 101, 116, 104, 111, 100], [80, 85, 84]), ([58, 112, 97, 116, 104], [47]), ([58, 112, 97, 116, 104], [47, 105, 110, 100, 101, 120]),
   ([58, 115, 116, 97, 116, 117, 115], [50, 48, 48]), ([58, 115, 116, 97, 116, 117, 115], [52, 48, 52]), ([58, 115, 116, 97, 116, 117, 115], [53, 48, 48]), ([97, 99, 99, 101, 112, 116], []),
   ([97, 103, 101], []), ([99, 111, 111, 107, 105, 101], []), ([100, 97, 116, 101], []), ([104, 111, 115, 116], []), ([108, 101, 110, 103, 116, 104], []), ([115, 101, 114, 118, 101, 114], []),
   ([116, 121, 112, 101], [116, 101, 120, 116]), ([116, 121, 112, 101], [106, 115, 111, 110])]

/-- The least place (from 1) of an entry that a test takes; 0: none. -/
def least (q : List UInt8 × List UInt8 → Bool) : List (List UInt8 × List UInt8) → Nat
  | [] => 0
  | a :: r => if q a then 1 else if least q r = 0 then 0 else least q r + 1

def wholeQ (p a : List UInt8 × List UInt8) : Bool := (a.2 != []) && (a == p)
def nameQ (n : List UInt8) (a : List UInt8 × List UInt8) : Bool := a.1 == n
def entryOf (p : List UInt8 × List UInt8) : Nat := least (wholeQ p) tbl
def entryNamed (n : List UInt8) : Nat := least (nameQ n) tbl

theorem least_le (q : List UInt8 × List UInt8 → Bool) (l : List (List UInt8 × List UInt8)) : least q l ≤ l.length := by
  induction l with
  | nil => simp [least]
  | cons a r ih => simp only [least, List.length_cons]; split <;> try split <;> omega
                   omega

theorem least_hit (q : List UInt8 × List UInt8 → Bool) (l : List (List UInt8 × List UInt8)) (h : 0 < least q l) : q (l.getD (least q l - 1) ([], [])) = true := by
  induction l with
  | nil => simp [least] at h
  | cons a r ih =>
    by_cases ha : q a = true
    · simp [least, ha]
    · by_cases hr : least q r = 0
      · simp [least, ha, hr] at h
      · have := ih (by omega)
        have e : least q (a :: r) = least q r + 1 := by simp [least, ha, hr]
        obtain ⟨m, hm⟩ : ∃ m, least q r = m + 1 := ⟨least q r - 1, by omega⟩
        rw [e, hm]; rw [hm] at this
        simpa using this

theorem least_of (q : List UInt8 × List UInt8 → Bool) (l : List (List UInt8 × List UInt8)) (k : Nat) (hk : k < l.length) (h : q (l.getD k ([], [])) = true) : 0 < least q l ∧ least q l ≤ k + 1 := by
  induction l generalizing k with
  | nil => simp at hk
  | cons a r ih =>
    by_cases ha : q a = true
    · simp [least, ha]
    · cases k with
      | zero => simp at h; exact absurd h ha
      | succ k =>
        have := ih k (by simpa using hk) (by simpa using h)
        have e : least q (a :: r) = least q r + 1 := by simp only [least, ha]; rw [if_neg (by simp), if_neg (by omega)]
        omega

/-- What a loop over the entries comes to: none of the first k, then the k-th. -/
theorem least_first (q : List UInt8 × List UInt8 → Bool) (l : List (List UInt8 × List UInt8)) (k : Nat) (hk : k < l.length) (hno : ∀ j, j < k → q (l.getD j ([], [])) = false) (h : q (l.getD k ([], [])) = true) : least q l = k + 1 := by
  have h1 := least_of q l k hk h
  have h2 := least_hit q l h1.1
  by_cases hlt : least q l - 1 < k
  · rw [hno _ hlt] at h2; cases h2
  · omega

theorem least_none (q : List UInt8 × List UInt8 → Bool) (l : List (List UInt8 × List UInt8)) (hno : ∀ j, j < l.length → q (l.getD j ([], [])) = false) : least q l = 0 := by
  by_cases h : 0 < least q l
  · have h2 := least_hit q l h
    have := least_le q l
    rw [hno _ (by omega)] at h2; cases h2
  · omega

def encN (high full n : Nat) : List UInt8 := if n < full then [UInt8.ofNat (high + n)] else [UInt8.ofNat (high + full), UInt8.ofNat (n - full)]
def encT (l : List UInt8) : List UInt8 := encN 0 31 l.length ++ l
def encH (p : List UInt8 × List UInt8) : List UInt8 :=
  if 0 < entryOf p then encN 128 7 (entryOf p)
  else if 0 < entryNamed p.1 then encN 64 7 (entryNamed p.1) ++ encT p.2
  else 0 :: (encT p.1 ++ encT p.2)
def encAll : List (List UInt8 × List UInt8) → List UInt8
  | [] => []
  | p :: r => encH p ++ encAll r

def decTail : Nat → Nat → Nat → List UInt8 → Option (Nat × List UInt8)
  | 0, _, _, _ => none
  | _ + 1, _, _, [] => none
  | f + 1, acc, i, c :: r =>
    if 128 ≤ c.toNat then decTail f (acc + c.toNat % 128 * 2 ^ (7 * i)) (i + 1) r
    else if 9999 < acc + c.toNat % 128 * 2 ^ (7 * i) then none else some (acc + c.toNat % 128 * 2 ^ (7 * i), r)
def decN (full : Nat) : List UInt8 → Option (Nat × List UInt8)
  | [] => none
  | c :: r => if c.toNat % (full + 1) < full then some (c.toNat % (full + 1), r) else decTail 3 full 0 r
def decT : List UInt8 → Option (List UInt8 × List UInt8)
  | [] => none
  | c :: r => if 31 < c.toNat then none else
    match decN 31 (c :: r) with
    | none => none
    | some (n, rest) => if rest.length < n then none else some (rest.take n, rest.drop n)
def decE (l : List UInt8) : Option ((List UInt8 × List UInt8) × List UInt8) :=
  match decN 7 l with
  | none => none
  | some (n, rest) => if n < 1 ∨ 16 < n then none else some (tbl.getD (n - 1) ([], []), rest)
/-- A header by its entry; by an entry's name; in full: not yet looked at. -/
def decA (l : List UInt8) : Option ((List UInt8 × List UInt8) × List UInt8) :=
  match decE l with
  | none => none
  | some (p, rest) => if p.2 = [] then none else some (p, rest)
def decB (l : List UInt8) : Option ((List UInt8 × List UInt8) × List UInt8) :=
  match decE l with
  | none => none
  | some (p, rest) => match decT rest with
    | none => none
    | some (v, rest') => some ((p.1, v), rest')
def decC (r : List UInt8) : Option ((List UInt8 × List UInt8) × List UInt8) :=
  match decT r with
  | none => none
  | some (n, rest) => match decT rest with
    | none => none
    | some (v, rest') => some ((n, v), rest')
def decRaw : List UInt8 → Option ((List UInt8 × List UInt8) × List UInt8)
  | [] => none
  | c :: r => if c.toNat / 8 = 16 then decA (c :: r) else if c.toNat / 8 = 8 then decB (c :: r) else if c.toNat = 0 then decC r else none
def decH (l : List UInt8) : Option ((List UInt8 × List UInt8) × List UInt8) :=
  match decRaw l with
  | none => none
  | some (p, rest) => if okPair p = true then some (p, rest) else none
def decL : Nat → List UInt8 → Option (List (List UInt8 × List UInt8))
  | _, [] => some []
  | 0, _ :: _ => none
  | k + 1, c :: r => match decH (c :: r) with
    | none => none
    | some (p, rest) => match decL k rest with
      | none => none
      | some m => some (p :: m)

/-! ### lengths -/
theorem encN_len (high full n : Nat) : (encN high full n).length = if n < full then 1 else 2 := by unfold encN; split <;> rfl
theorem encN_pos (high full n : Nat) : 1 ≤ (encN high full n).length ∧ (encN high full n).length ≤ 2 := by rw [encN_len]; split <;> omega
theorem encN_mono (high high' full n m : Nat) (h : n ≤ m) : (encN high full n).length ≤ (encN high' full m).length := by rw [encN_len, encN_len]; split <;> split <;> omega
theorem encT_len (l : List UInt8) : (encT l).length = (if l.length < 31 then 1 else 2) + l.length := by unfold encT; rw [List.length_append, encN_len]

theorem decTail_len (f acc i n : Nat) (l rest : List UInt8) (h : decTail f acc i l = some (n, rest)) : rest.length + 1 ≤ l.length := by
  induction f generalizing acc i l with
  | zero => simp [decTail] at h
  | succ f ih =>
    cases l with
    | nil => simp [decTail] at h
    | cons c r =>
      simp only [decTail] at h
      split at h
      · have := ih _ _ _ h; simp only [List.length_cons]; omega
      · split at h
        · cases h
        · simp only [Option.some.injEq, Prod.mk.injEq] at h; rw [← h.2]; simp
theorem decTail_le (f acc i n : Nat) (l rest : List UInt8) (h : decTail f acc i l = some (n, rest)) : n ≤ 9999 := by
  induction f generalizing acc i l with
  | zero => simp [decTail] at h
  | succ f ih =>
    cases l with
    | nil => simp [decTail] at h
    | cons c r =>
      simp only [decTail] at h
      split at h
      · exact ih _ _ _ h
      · split at h
        · cases h
        · simp only [Option.some.injEq, Prod.mk.injEq] at h; omega
theorem decN_len (high full n : Nat) (l rest : List UInt8) (h : decN full l = some (n, rest)) : (encN high full n).length + rest.length ≤ l.length := by
  cases l with
  | nil => simp [decN] at h
  | cons c r =>
    simp only [decN] at h
    rw [encN_len]
    split at h
    · simp only [Option.some.injEq, Prod.mk.injEq] at h; obtain ⟨rfl, rfl⟩ := h; rw [if_pos (by assumption)]; simp only [List.length_cons]; omega
    · have := decTail_len _ _ _ _ _ _ h; simp only [List.length_cons]; split <;> omega
theorem decT_len (l v rest : List UInt8) (h : decT l = some (v, rest)) : (encT v).length + rest.length ≤ l.length := by
  cases l with
  | nil => simp [decT] at h
  | cons c r =>
    simp only [decT] at h
    split at h
    · cases h
    · split at h
      · cases h
      · rename_i n rs hn
        split at h
        · cases h
        · have h1 := decN_len 0 31 n _ _ hn
          simp only [Option.some.injEq, Prod.mk.injEq] at h
          obtain ⟨rfl, rfl⟩ := h
          unfold encT
          have hl : (rs.take n).length = n := by rw [List.length_take]; omega
          rw [List.length_append, hl, List.length_drop]
          omega
theorem decE_of (l rest : List UInt8) (p : List UInt8 × List UInt8) (h : decE l = some (p, rest)) : ∃ n, 1 ≤ n ∧ n ≤ 16 ∧ p = tbl.getD (n - 1) ([], []) ∧ (∀ high, (encN high 7 n).length + rest.length ≤ l.length) := by
  unfold decE at h
  split at h
  · cases h
  · rename_i n rs hn
    split at h
    · cases h
    · simp only [Option.some.injEq, Prod.mk.injEq] at h
      obtain ⟨rfl, rfl⟩ := h
      exact ⟨n, by omega, by omega, rfl, fun high => decN_len high 7 n _ _ hn⟩

/-- What was read is packed in no more bytes. -/
theorem decRaw_len (l rest : List UInt8) (p : List UInt8 × List UInt8) (h : decRaw l = some (p, rest)) : (encH p).length + rest.length ≤ l.length := by
  cases l with
  | nil => simp [decRaw] at h
  | cons c r =>
    simp only [decRaw] at h
    split at h
    · unfold decA at h
      split at h
      · cases h
      · rename_i q rs hq
        split at h
        · cases h
        · rename_i hv
          simp only [Option.some.injEq, Prod.mk.injEq] at h
          obtain ⟨rfl, rfl⟩ := h
          obtain ⟨n, h1, h2, hp, hl⟩ := decE_of _ _ _ hq
          have hw := least_of (wholeQ q) tbl (n - 1) (by show n - 1 < 16; omega) (by rw [← hp]; simp [wholeQ, hv])
          have hl := hl 128
          have hm := encN_mono 128 128 7 (entryOf q) n (by unfold entryOf; omega)
          unfold encH
          rw [if_pos (by unfold entryOf; exact hw.1)]
          omega
    · split at h
      · unfold decB at h
        split at h
        · cases h
        · rename_i q rs hq
          split at h
          · cases h
          · rename_i v rs' hv
            simp only [Option.some.injEq, Prod.mk.injEq] at h
            obtain ⟨rfl, rfl⟩ := h
            obtain ⟨n, h1, h2, hp, hl⟩ := decE_of _ _ _ hq
            have hl := hl 64
            have hd := decT_len _ _ _ hv
            have ht := encT_len v
            have hw := least_of (nameQ q.1) tbl (n - 1) (by show n - 1 < 16; omega) (by rw [← hp]; simp [nameQ])
            have hm := encN_mono 64 64 7 (entryNamed q.1) n (by unfold entryNamed; omega)
            have hb := encN_pos 128 7 (entryOf (q.1, v))
            have hb' := encN_pos 64 7 n
            have ht1 : 1 ≤ (encT v).length := by rw [ht]; split <;> omega
            unfold encH
            split
            · omega
            · rw [if_pos (by unfold entryNamed; exact hw.1), List.length_append]
              show (encN 64 7 (entryNamed q.1)).length + (encT v).length + _ ≤ _
              omega
      · split at h
        · unfold decC at h
          split at h
          · cases h
          · rename_i n rs hn
            split at h
            · cases h
            · rename_i v rs' hv
              simp only [Option.some.injEq, Prod.mk.injEq] at h
              obtain ⟨rfl, rfl⟩ := h
              have hd := decT_len _ _ _ hn
              have hd' := decT_len _ _ _ hv
              have ht := encT_len v
              have ht' := encT_len n
              have ht1 : 1 ≤ (encT v).length := by rw [ht]; split <;> omega
              have ht2 : 1 ≤ (encT n).length := by rw [ht']; split <;> omega
              have hb := encN_pos 128 7 (entryOf (n, v))
              have hb' := encN_pos 64 7 (entryNamed n)
              rw [List.length_cons]
              unfold encH
              split
              · omega
              · split
                · rw [List.length_append]
                  show (encN 64 7 (entryNamed n)).length + (encT v).length + _ ≤ _
                  omega
                · rw [List.length_cons, List.length_append]
                  show (encT n).length + (encT v).length + 1 + _ ≤ _
                  omega
        · cases h
theorem encH_pos (p : List UInt8 × List UInt8) : 1 ≤ (encH p).length := by
  have hb := encN_pos 128 7 (entryOf p)
  have hb' := encN_pos 64 7 (entryNamed p.1)
  unfold encH
  split
  · omega
  · split
    · rw [List.length_append]; omega
    · rw [List.length_cons]; omega
theorem decH_len (l rest : List UInt8) (p : List UInt8 × List UInt8) (h : decH l = some (p, rest)) : okPair p = true ∧ (encH p).length + rest.length ≤ l.length := by
  unfold decH at h
  split at h
  · cases h
  · rename_i q rs hq
    split at h
    · simp only [Option.some.injEq, Prod.mk.injEq] at h
      obtain ⟨rfl, rfl⟩ := h
      exact ⟨by assumption, decRaw_len _ _ _ hq⟩
    · cases h
theorem decL_len (k : Nat) (l : List UInt8) (m : List (List UInt8 × List UInt8)) (h : decL k l = some m) : m.length ≤ k ∧ (∀ p ∈ m, okPair p = true) ∧ (encAll m).length ≤ l.length ∧ (l ≠ [] → m ≠ []) := by
  induction k generalizing l m with
  | zero =>
    cases l with
    | nil => simp only [decL, Option.some.injEq] at h; subst h; simp [encAll]
    | cons c r => simp [decL] at h
  | succ k ih =>
    cases l with
    | nil => simp only [decL, Option.some.injEq] at h; subst h; simp [encAll]
    | cons c r =>
      simp only [decL] at h
      split at h
      · cases h
      · rename_i p rest hp
        split at h
        · cases h
        · rename_i m' hm
          simp only [Option.some.injEq] at h
          subst h
          obtain ⟨h1, h2, h3, _⟩ := ih _ _ hm
          obtain ⟨g1, g2⟩ := decH_len _ _ _ hp
          refine ⟨by simp; omega, ?_, ?_, by simp⟩
          · intro q hq
            rcases List.mem_cons.1 hq with rfl | hq
            · exact g1
            · exact h2 _ hq
          · show (encH p ++ encAll m').length ≤ _
            rw [List.length_append]; omega

/-! ### what is packed is read back -/
theorem decN_enc (high full n : Nat) (r : List UInt8) (hf : (full = 7 ∧ (high = 128 ∨ high = 64)) ∨ (full = 31 ∧ high = 0)) (hn : n ≤ 100) : decN full (encN high full n ++ r) = some (n, r) := by
  unfold encN
  split
  · have e : (UInt8.ofNat (high + n)).toNat = high + n := by rw [UInt8.toNat_ofNat']; omega
    have e2 : (high + n) % (full + 1) = n := by rcases hf with ⟨rfl, rfl | rfl⟩ | ⟨rfl, rfl⟩ <;> omega
    simp only [List.cons_append, List.nil_append, decN, e, e2]
    rw [if_pos (by assumption)]
  · have e : (UInt8.ofNat (high + full)).toNat = high + full := by rw [UInt8.toNat_ofNat']; omega
    have e2 : (high + full) % (full + 1) = full := by rcases hf with ⟨rfl, rfl | rfl⟩ | ⟨rfl, rfl⟩ <;> omega
    have e3 : (UInt8.ofNat (n - full)).toNat = n - full := by rw [UInt8.toNat_ofNat']; omega
    simp only [List.cons_append, List.nil_append, decN, e, e2]
    rw [if_neg (by omega)]
    simp only [decTail, e3]
    have e4 : (n - full) % 128 = n - full := Nat.mod_eq_of_lt (by omega)
    rw [if_neg (by omega), e4, if_neg (by simp; omega)]
    simp
    omega
theorem encN_head (high full n : Nat) (r : List UInt8) (h : high + full < 256) : ∃ c t, encN high full n ++ r = c :: t ∧ (c.toNat = high + n ∧ n < full ∨ c.toNat = high + full ∧ full ≤ n) := by
  unfold encN
  split
  · exact ⟨_, _, rfl, .inl ⟨by rw [UInt8.toNat_ofNat']; omega, by assumption⟩⟩
  · exact ⟨_, _, rfl, .inr ⟨by rw [UInt8.toNat_ofNat']; omega, by omega⟩⟩
theorem decT_enc (v r : List UInt8) (hv : v.length ≤ 60) : decT (encT v ++ r) = some (v, r) := by
  have h := decN_enc 0 31 v.length (v ++ r) (.inr ⟨rfl, rfl⟩) (by omega)
  obtain ⟨c, t, he, hc⟩ := encN_head 0 31 v.length (v ++ r) (by omega)
  unfold encT
  rw [List.append_assoc]
  rw [he] at h ⊢
  simp only [decT, h]
  rw [if_neg (by omega), if_neg (by simp)]
  simp
theorem okPair_len (p : List UInt8 × List UInt8) (h : okPair p = true) : 1 ≤ p.1.length ∧ p.1.length ≤ 20 ∧ p.2.length ≤ 60 := by
  simp [okPair, okName, okValue] at h
  omega
theorem decE_enc (high n : Nat) (r : List UInt8) (hh : high = 128 ∨ high = 64) (h1 : 1 ≤ n) (h2 : n ≤ 16) : decE (encN high 7 n ++ r) = some (tbl.getD (n - 1) ([], []), r) := by
  unfold decE
  rw [decN_enc high 7 n r (.inl ⟨rfl, hh⟩) (by omega)]
  simp only
  rw [if_neg (by omega)]
theorem decRaw_enc (p : List UInt8 × List UInt8) (r : List UInt8) (h : okPair p = true) : decRaw (encH p ++ r) = some (p, r) := by
  obtain ⟨l1, l2, l3⟩ := okPair_len p h
  unfold encH
  split
  · rename_i hw
    have hle : entryOf p ≤ 16 := least_le _ tbl
    have hhit := least_hit _ tbl hw
    have he := decE_enc 128 (entryOf p) r (.inl rfl) hw hle
    obtain ⟨c, t, hc, hv⟩ := encN_head 128 7 (entryOf p) r (by omega)
    rw [hc] at he ⊢
    simp only [wholeQ, Bool.and_eq_true, bne_iff_ne, ne_eq, beq_iff_eq] at hhit
    obtain ⟨hh1, hh2⟩ := hhit
    change tbl.getD (entryOf p - 1) ([], []) = p at hh2
    change ¬ (tbl.getD (entryOf p - 1) ([], [])).2 = [] at hh1
    simp only [decRaw]
    rw [if_pos (by omega)]
    unfold decA
    rw [he]
    rw [hh2] at hh1 ⊢
    simp only
    rw [if_neg hh1]
  · split
    · rename_i hw
      have hle : entryNamed p.1 ≤ 16 := least_le _ tbl
      have hhit := least_hit _ tbl hw
      have he := decE_enc 64 (entryNamed p.1) (encT p.2 ++ r) (.inr rfl) hw hle
      obtain ⟨c, t, hc, hv⟩ := encN_head 64 7 (entryNamed p.1) (encT p.2 ++ r) (by omega)
      simp only [nameQ, beq_iff_eq] at hhit
      change (tbl.getD (entryNamed p.1 - 1) ([], [])).1 = p.1 at hhit
      rw [List.append_assoc]
      rw [hc] at he ⊢
      simp only [decRaw]
      rw [if_neg (by omega), if_pos (by omega)]
      unfold decB
      rw [he]
      simp only [decT_enc p.2 r l3, hhit]
    · simp only [List.cons_append, List.append_assoc, decRaw]
      rw [if_neg (by decide), if_neg (by decide), if_pos (by decide)]
      unfold decC
      rw [decT_enc p.1 _ (by omega)]
      simp only [decT_enc p.2 r l3]
theorem decL_enc (k : Nat) (m : List (List UInt8 × List UInt8)) (hk : m.length ≤ k) (h : ∀ p ∈ m, okPair p = true) : decL k (encAll m) = some m := by
  induction m generalizing k with
  | nil => cases k <;> rfl
  | cons p r ih =>
    cases k with
    | zero => simp at hk
    | succ k =>
      have hp := h p (by simp)
      have hr := decRaw_enc p (encAll r) hp
      have hpos := encH_pos p
      show decL (k + 1) (encH p ++ encAll r) = _
      generalize hx : encH p ++ encAll r = x at hr ⊢
      cases x with
      | nil => have := congrArg List.length hx; rw [List.length_append, List.length_nil] at this; omega
      | cons c t =>
        simp only [decL, decH, hr, hp, if_true]
        rw [ih k (by simpa using hk) (fun q hq => h q (by simp [hq]))]
theorem encH_le (p : List UInt8 × List UInt8) (h : okPair p = true) : (encH p).length ≤ 84 := by
  obtain ⟨l1, l2, l3⟩ := okPair_len p h
  have hb := encN_pos 128 7 (entryOf p)
  have hb' := encN_pos 64 7 (entryNamed p.1)
  have t1 := encT_len p.1
  have t2 := encT_len p.2
  unfold encH
  split
  · omega
  · split
    · rw [List.length_append, t2]; split <;> omega
    · rw [List.length_cons, List.length_append, t1, t2]; split <;> split <;> omega
theorem encAll_le (m : List (List UInt8 × List UInt8)) (h : ∀ p ∈ m, okPair p = true) : (encAll m).length ≤ 84 * m.length ∧ m.length ≤ (encAll m).length := by
  induction m with
  | nil => simp [encAll]
  | cons p r ih =>
    have h1 := encH_le p (h p (by simp))
    have h2 := encH_pos p
    have h3 := ih (fun q hq => h q (by simp [hq]))
    show (encH p ++ encAll r).length ≤ _ ∧ _ ≤ (encH p ++ encAll r).length
    rw [List.length_append, List.length_cons]
    omega
theorem encAll_append (a b : List (List UInt8 × List UInt8)) : encAll (a ++ b) = encAll a ++ encAll b := by
  induction a with
  | nil => rfl
  | cons p r ih => show encH p ++ encAll (r ++ b) = (encH p ++ encAll r) ++ encAll b; rw [ih, List.append_assoc]

end Go.Proofs.YtoijpogadkogcaaGreat
