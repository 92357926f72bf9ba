import Derived.Test.YtibofakbhgmhiabGreatDoorHp9
namespace Go.Proofs.YtibofakbhgmhiabGreatDoor

/-- the order as a proposition -/
def ltP (a b : Hd) : Prop := a.K < b.K ∨ (a.K = b.K ∧ a.r < b.r)
theorem ltHd_iff (a b : Hd) : ltHd a b = true ↔ ltP a b := by
  simp only [ltHd, ltH, ltP, Bool.or_eq_true, Bool.and_eq_true, Bool.not_eq_true', decide_eq_true_eq, decide_eq_false_iff_not]
  omega
theorem ltP_trans {a b c : Hd} (h1 : ltP a b) (h2 : ltP b c) : ltP a c := by unfold ltP at *; omega
theorem ltP_irr (a : Hd) : ¬ ltP a a := by unfold ltP; omega
def leP (a b : Hd) : Prop := ¬ ltP b a
theorem leP_refl (a : Hd) : leP a a := ltP_irr a
theorem leP_trans {a b c : Hd} (h1 : leP a b) (h2 : leP b c) : leP a c := by unfold leP ltP at *; omega
theorem leP_of_lt {a b : Hd} (h : ltP a b) : leP a b := by unfold leP ltP at *; omega

/-- a heap -/
def Hp (xs : List Hd) : Prop := ∀ i (h : i < xs.length), 0 < i → leP (xs[(i - 1) / 2]'(by omega)) xs[i]
/-- the least is first -/
theorem Hp.least {xs : List Hd} (h : Hp xs) : ∀ i (hi : i < xs.length), leP (xs[0]'(by omega)) xs[i] := by
  intro i
  induction i using Nat.strongRecOn with
  | _ i ih =>
    intro hi
    by_cases h0 : i = 0
    · subst h0; exact leP_refl _
    · exact leP_trans (ih ((i - 1) / 2) (by omega) (by omega)) (h i hi (by omega))

theorem swapL_get (xs : List Hd) (a b : Nat) (ha : a < xs.length) (hb : b < xs.length) (i : Nat) (hi : i < (swapL xs a b).length) :
    (swapL xs a b)[i] = if i = b then xs[a] else if i = a then xs[b] else xs[i]'(by rw [swapL_length] at hi; exact hi) := by
  have e : swapL xs a b = (xs.set a xs[b]).set b xs[a] := by unfold swapL; exact dif_pos ⟨ha, hb⟩
  simp only [e, List.getElem_set]
  by_cases h1 : i = b
  · simp [h1]
  · by_cases h2 : i = a
    · subst h2; simp [h1, Ne.symm h1]
    · simp [h1, h2, Ne.symm h1, Ne.symm h2]

/-- a heap but at k, which may be less than what is above it -/
structure HpUp (xs : List Hd) (k : Nat) : Prop where
  oth : ∀ i (h : i < xs.length), 0 < i → i ≠ k → leP (xs[(i - 1) / 2]'(by omega)) xs[i]
  chi : ∀ i (h : i < xs.length), 0 < i → 0 < k → ∀ (e : (i - 1) / 2 = k), leP (xs[(k - 1) / 2]'(by omega)) xs[i]

theorem riseL_hp (k : Nat) : ∀ (xs : List Hd), k < xs.length → HpUp xs k → Hp (riseL xs k) := by
  induction k using Nat.strongRecOn with
  | _ k ih =>
    intro xs hk h
    rw [riseL]
    by_cases h0 : 0 < k
    · have hp : (k - 1) / 2 < xs.length := by omega
      rw [dif_pos ⟨h0, hk⟩]
      by_cases hlt : ltHd xs[k] xs[(k - 1) / 2] = true
      · rw [if_pos hlt]
        have hl := (ltHd_iff _ _).1 hlt
        refine ih _ (by omega) _ (by rw [swapL_length]; exact hp) ⟨?_, ?_⟩
        · intro i hi hi0 hik
          rw [swapL_get xs k ((k - 1) / 2) hk hp, swapL_get xs k ((k - 1) / 2) hk hp]
          rw [swapL_length] at hi
          rw [if_neg hik]
          by_cases hik2 : i = k
          · subst hik2
            rw [if_pos rfl, if_pos rfl]
            exact leP_of_lt hl
          · rw [if_neg hik2]
            by_cases hpi : (i - 1) / 2 = (k - 1) / 2
            · rw [if_pos hpi]
              have := h.oth i hi hi0 hik2
              simp only [hpi] at this
              exact leP_trans (leP_of_lt hl) this
            · rw [if_neg hpi]
              by_cases hpk : (i - 1) / 2 = k
              · rw [if_pos hpk]
                exact h.chi i hi hi0 h0 hpk
              · rw [if_neg hpk]
                exact h.oth i hi hi0 hik2
        · intro i hi hi0 hp0 hpi
          rw [swapL_get xs k ((k - 1) / 2) hk hp, swapL_get xs k ((k - 1) / 2) hk hp]
          rw [swapL_length] at hi
          rw [if_neg (by omega), if_neg (by omega), if_neg (by omega)]
          have hpp := h.oth ((k - 1) / 2) hp hp0 (by omega)
          by_cases hik2 : i = k
          · rw [if_pos hik2]; exact hpp
          · rw [if_neg hik2]
            have := h.oth i hi hi0 hik2
            simp only [hpi] at this
            exact leP_trans hpp this
      · rw [if_neg hlt]
        intro i hi hi0
        by_cases hik : i = k
        · subst hik
          exact fun hl => hlt ((ltHd_iff _ _).2 hl)
        · exact h.oth i hi hi0 hik
    · rw [dif_neg (fun hh => h0 hh.1)]
      intro i hi hi0
      exact h.oth i hi hi0 (by omega)

/-- a heap but at k, which may be greater than what is below it -/
structure HpDn (xs : List Hd) (k : Nat) : Prop where
  oth : ∀ i (h : i < xs.length), 0 < i → (i - 1) / 2 ≠ k → leP (xs[(i - 1) / 2]'(by omega)) xs[i]
  chi : ∀ i (h : i < xs.length), 0 < i → 0 < k → ∀ (e : (i - 1) / 2 = k), leP (xs[(k - 1) / 2]'(by omega)) xs[i]

theorem look_le (xs : List Hd) (l b : Nat) (hl : l < xs.length) : leP (xs[look xs l b]'(look_lt hl b)) xs[l] ∧ ∀ (hb : b < xs.length), leP (xs[look xs l b]'(look_lt hl b)) xs[b] := by
  by_cases hb : b < xs.length
  · by_cases hlt : ltHd xs[b] xs[l] = true
    · have e : look xs l b = b := by unfold look; rw [dif_pos ⟨hb, hl⟩, if_pos hlt]
      simp only [e]
      exact ⟨leP_of_lt ((ltHd_iff _ _).1 hlt), fun _ => leP_refl _⟩
    · have e : look xs l b = l := by unfold look; rw [dif_pos ⟨hb, hl⟩, if_neg hlt]
      simp only [e]
      exact ⟨leP_refl _, fun _ hl' => hlt ((ltHd_iff _ _).2 hl')⟩
  · have e : look xs l b = l := by unfold look; rw [dif_neg (fun h => hb h.1)]
    simp only [e]
    exact ⟨leP_refl _, fun h => absurd h hb⟩
/-- leastOf's place: it, or one of the two below; its thing is no greater than all three -/
theorem looks_le (xs : List Hd) (k : Nat) (hk : k < xs.length) :
    (looks xs k [2 * k + 1, 2 * k + 2] = k ∨ (looks xs k [2 * k + 1, 2 * k + 2] = 2 * k + 1 ∨ looks xs k [2 * k + 1, 2 * k + 2] = 2 * k + 2)) ∧
    leP (xs[looks xs k [2 * k + 1, 2 * k + 2]]'(looks_lt _ hk)) xs[k] ∧ ∀ i (hi : i < xs.length), 0 < i → (i - 1) / 2 = k → leP (xs[looks xs k [2 * k + 1, 2 * k + 2]]'(looks_lt _ hk)) xs[i] := by
  have e : looks xs k [2 * k + 1, 2 * k + 2] = look xs (look xs k (2 * k + 1)) (2 * k + 2) := rfl
  have l1 := look_lt hk (2 * k + 1)
  have a := look_le xs k (2 * k + 1) hk
  have b := look_le xs (look xs k (2 * k + 1)) (2 * k + 2) l1
  simp only [e]
  refine ⟨?_, leP_trans b.1 a.1, ?_⟩
  · rcases look_or xs (look xs k (2 * k + 1)) (2 * k + 2) with h | h <;> rw [h]
    · exact .inr (.inr rfl)
    · rcases look_or xs k (2 * k + 1) with h' | h' <;> rw [h']
      · exact .inr (.inl rfl)
      · exact .inl rfl
  · intro i hi hi0 hik
    have : i = 2 * k + 1 ∨ i = 2 * k + 2 := by omega
    rcases this with rfl | rfl
    · exact leP_trans b.1 (a.2 hi)
    · exact b.2 hi

theorem sinkL_hp (n : Nat) : ∀ (xs : List Hd) (k : Nat), xs.length - k = n → k < xs.length → HpDn xs k → Hp (sinkL xs k) := by
  induction n using Nat.strongRecOn with
  | _ n ih =>
    intro xs k hn hk h
    obtain ⟨l, hl, hleq, hle⟩ : ∃ l, ∃ hl : l < xs.length, looks xs k [2 * k + 1, 2 * k + 2] = l ∧ (l = k ∨ (l = 2 * k + 1 ∨ l = 2 * k + 2)) ∧ leP xs[l] xs[k] ∧ ∀ i (hi : i < xs.length), 0 < i → (i - 1) / 2 = k → leP xs[l] xs[i] :=
      ⟨_, looks_lt _ hk, rfl, looks_le xs k hk⟩
    rw [sinkL, hleq]
    by_cases hkl : k < l
    · rw [dif_pos ⟨hkl, hl⟩]
      have hlp : (l - 1) / 2 = k := by omega
      refine ih (xs.length - l) (by omega) _ l (by rw [swapL_length]) (by rw [swapL_length]; exact hl) ⟨?_, ?_⟩
      · intro i hi hi0 hil
        rw [swapL_length] at hi
        rw [swapL_get xs k l hk hl, swapL_get xs k l hk hl]
        rw [if_neg hil]
        by_cases hi1 : i = l
        · subst hi1
          rw [if_pos rfl, if_pos hlp]
          exact hle.2.1
        · rw [if_neg hi1]
          by_cases hpk : (i - 1) / 2 = k
          · rw [if_pos hpk, if_neg (by omega)]
            exact hle.2.2 i hi hi0 hpk
          · rw [if_neg hpk]
            by_cases hik : i = k
            · subst hik
              rw [if_pos rfl]
              have := h.chi l hl (by omega) hi0 hlp
              exact this
            · rw [if_neg hik]
              exact h.oth i hi hi0 hpk
      · intro i hi hi0 hl0 hil
        rw [swapL_length] at hi
        rw [swapL_get xs k l hk hl, swapL_get xs k l hk hl]
        rw [if_neg (by omega), if_pos hlp, if_neg (by omega), if_neg (by omega)]
        have := h.oth i hi hi0 (by omega)
        simp only [hil] at this
        exact this
    · rw [dif_neg (fun hh => hkl hh.1)]
      have hlk : l = k := by omega
      subst hlk
      intro i hi hi0
      by_cases hpk : (i - 1) / 2 = l
      · simp only [hpk]; exact hle.2.2 i hi hi0 hpk
      · exact h.oth i hi hi0 hpk

deriving instance DecidableEq for Hd
theorem swapL_perm (xs : List Hd) (a b : Nat) : (swapL xs a b).Perm xs := by
  unfold swapL
  split
  · rename_i h
    rw [List.perm_iff_count]
    intro x
    rw [List.count_set (by simpa using h.2), List.count_set h.1]
    have h1 : (xs[a]'h.1 == x) = true → 0 < xs.count x := fun e => List.count_pos_iff.2 (by rw [← eq_of_beq e]; exact List.getElem_mem _)
    simp only [List.getElem_set]
    have h2 : (if (xs[a]'h.1 == x) = true then 1 else 0) ≤ xs.count x := by
      split
      · rename_i hh; exact h1 hh
      · exact Nat.zero_le _
    by_cases hab : a = b
    · subst hab
      simp only [if_true]
      omega
    · simp only [if_neg hab]
      omega
  · exact List.Perm.refl _

theorem riseL_perm (k : Nat) : ∀ xs : List Hd, (riseL xs k).Perm xs := by
  induction k using Nat.strongRecOn with
  | _ k ih =>
    intro xs
    rw [riseL]
    split
    · split
      · exact (ih _ (by omega) _).trans (swapL_perm _ _ _)
      · exact List.Perm.refl _
    · exact List.Perm.refl _
theorem sinkL_perm (n : Nat) : ∀ (xs : List Hd) (k : Nat), xs.length - k = n → (sinkL xs k).Perm xs := by
  induction n using Nat.strongRecOn with
  | _ n ih =>
    intro xs k hn
    rw [sinkL]
    split
    · rename_i h
      exact (ih (xs.length - looks xs k [2 * k + 1, 2 * k + 2]) (by omega) _ _ (by rw [swapL_length])).trans (swapL_perm _ _ _)
    · exact List.Perm.refl _

theorem pushL_hp {xs : List Hd} (h : Hp xs) (x : Hd) : Hp (pushL xs x) := by
  unfold pushL
  refine riseL_hp _ _ (by simp) ⟨?_, ?_⟩
  · intro i hi hi0 hne
    simp only [List.length_append, List.length_cons, List.length_nil] at hi
    rw [List.getElem_append_left (by omega), List.getElem_append_left (by omega)]
    exact h i (by omega) hi0
  · intro i hi hi0 _ e
    simp only [List.length_append, List.length_cons, List.length_nil] at hi
    omega
theorem pushL_perm (xs : List Hd) (x : Hd) : (pushL xs x).Perm (x :: xs) := (riseL_perm _ _).trans (List.perm_append_singleton x xs)
theorem buildL_hp (hs : List Hd) : Hp (buildL hs) ∧ (buildL hs).Perm hs := by
  have key : ∀ (l xs : List Hd), Hp xs → Hp (l.foldl pushL xs) ∧ (l.foldl pushL xs).Perm (l.reverse ++ xs) := by
    intro l
    induction l with
    | nil => intro xs h; exact ⟨h, List.Perm.refl _⟩
    | cons x t ih =>
      intro xs h
      obtain ⟨a, b⟩ := ih (pushL xs x) (pushL_hp h x)
      refine ⟨a, b.trans ?_⟩
      simp only [List.reverse_cons, List.append_assoc, List.singleton_append]
      exact List.Perm.append_left _ (pushL_perm xs x)
  obtain ⟨a, b⟩ := key hs [] (fun i h => by simp at h)
  exact ⟨a, b.trans (by simp)⟩

theorem take_set_perm (x : Hd) (t : List Hd) : ((((x :: t).set 0 ((x :: t)[t.length]'(by simp))).take t.length)).Perm t := by
  rcases t.eq_nil_or_concat with rfl | ⟨s, y, rfl⟩
  · simp
  · have e : ((x :: (s ++ [y]))[(s ++ [y]).length]'(by simp)) = y := by simp
    have e2 : (((x :: (s ++ [y])).set 0 ((x :: (s ++ [y]))[(s ++ [y]).length]'(by simp))).take (s ++ [y]).length) = y :: s := by
      rw [e, List.set_cons_zero, show (s ++ [y]).length = s.length + 1 from by simp, List.take_succ_cons, List.take_append_of_le_length (Nat.le_refl _), List.take_length]
    first
      | exact e2 ▸ (List.perm_append_singleton y s).symm
      | (rw [e2]; exact (List.perm_append_singleton y s).symm)
      | (simp only [List.concat_eq_append]; rw [e2]; exact (List.perm_append_singleton y s).symm)
/-- what is left when the least is taken -/
theorem pop_hp (x : Hd) (t : List Hd) (h : Hp (x :: t)) : Hp (sinkL (((x :: t).set 0 ((x :: t)[t.length]'(by simp))).take t.length) 0) ∧ (sinkL (((x :: t).set 0 ((x :: t)[t.length]'(by simp))).take t.length) 0).Perm t ∧ ∀ y ∈ t, leP x y := by
  refine ⟨?_, (sinkL_perm _ _ 0 rfl).trans (take_set_perm x t), ?_⟩
  · rcases t with _ | ⟨y, t⟩
    · have e : (([x].set 0 ([x][([] : List Hd).length]'(by simp))).take ([] : List Hd).length) = [] := by simp
      rw [e, sinkL_nil]
      intro i hi; simp at hi
    · refine sinkL_hp _ _ 0 rfl (by simp) ⟨?_, ?_⟩
      · intro i hi hi0 hne
        have := h i (by simp at hi ⊢; omega) hi0
        simp only [List.getElem_take, List.getElem_set]
        rw [if_neg (by omega), if_neg (by omega)]
        exact this
      · intro i hi hi0 h0; omega
  · intro y hy
    obtain ⟨i, hi, rfl⟩ := List.getElem_of_mem hy
    have := h.least (i + 1) (by simp; exact hi)
    simpa using this
end Go.Proofs.YtibofakbhgmhiabGreatDoor
