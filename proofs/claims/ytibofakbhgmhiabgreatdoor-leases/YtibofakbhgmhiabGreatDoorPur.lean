import Derived.Test.YtibofakbhgmhiabGreatDoorTrM
namespace Go.Proofs.YtibofakbhgmhiabGreatDoor

def Srt (l : List Int) : Prop := ∀ a b (hb : b < l.length) (hab : a < b), l[a] ≤ l[b]
/-- sorted but for place j, which is no greater than what stands behind it -/
def SrtBut (l : List Int) (j : Nat) : Prop := (∀ a b (hb : b < l.length) (hab : a < b), a ≠ j → b ≠ j → l[a] ≤ l[b]) ∧ ∀ b (hb : b < l.length) (hjb : j < b), l[j] ≤ l[b]
theorem srt_nil : Srt [] := fun _ _ hb => absurd hb (Nat.not_lt_zero _)
theorem srt_snoc {l : List Int} (h : Srt l) (y : Int) : SrtBut (l ++ [y]) l.length := by
  refine ⟨fun a b hb hab h1 h2 => ?_, fun b hb hjb => ?_⟩
  · simp at hb
    rw [List.getElem_append_left (by omega), List.getElem_append_left (by omega)]
    exact h a b (by omega) hab
  · simp at hb; omega
theorem srt_swap {l : List Int} {j : Nat} (h : SrtBut l j) (hj : j < l.length) (h0 : 0 < j) (hlt : l[j] < l[j - 1]) : SrtBut ((l.set j l[j - 1]).set (j - 1) l[j]) (j - 1) := by
  obtain ⟨h1, h2⟩ := h
  have g : ∀ i (hi : i < l.length), ((l.set j l[j - 1]).set (j - 1) l[j])[i]'(by simpa using hi) = if i = j - 1 then l[j] else if i = j then l[j - 1] else l[i] := by
    intro i hi
    rw [List.getElem_set]
    by_cases e : j - 1 = i
    · rw [if_pos e, if_pos e.symm]
    · rw [if_neg e, if_neg (fun x => e x.symm), List.getElem_set]
      by_cases e2 : j = i
      · rw [if_pos e2, if_pos e2.symm]
      · rw [if_neg e2, if_neg (fun x => e2 x.symm)]
  refine ⟨fun a b hb hab ha hbn => ?_, fun b hb hjb => ?_⟩
  · simp at hb
    rw [g a (by omega), g b (by omega), if_neg ha, if_neg hbn]
    by_cases e1 : a = j
    · rw [if_pos e1, if_neg (by omega)]
      exact h1 (j - 1) b (by omega) (by omega) (by omega) (by omega)
    · rw [if_neg e1]
      by_cases e2 : b = j
      · rw [if_pos e2]
        exact h1 a (j - 1) (by omega) (by omega) (by omega) (by omega)
      · rw [if_neg e2]
        exact h1 a b (by omega) hab e1 e2
  · simp at hb
    rw [g b (by omega), g (j - 1) (by omega), if_pos rfl, if_neg (by omega)]
    by_cases e2 : b = j
    · rw [if_pos e2]; omega
    · rw [if_neg e2]
      exact h2 b (by omega) (by omega)
theorem srt_stop0 {l : List Int} (h : SrtBut l 0) : Srt l := by
  intro a b hb hab
  by_cases e : a = 0
  · subst e; exact h.2 b hb hab
  · exact h.1 a b hb hab e (by omega)
theorem srt_stop {l : List Int} {j : Nat} (h : SrtBut l j) (hj : j < l.length) (h0 : 0 < j) (hge : ¬ l[j] < l[j - 1]) : Srt l := by
  intro a b hb hab
  by_cases e : a = j
  · subst e; exact h.2 b hb hab
  · by_cases e2 : b = j
    · subst e2
      by_cases e3 : a = b - 1
      · subst e3; omega
      · have := h.1 a (b - 1) (by omega) (by omega) e (by omega)
        omega
    · exact h.1 a b hb hab e e2

/-- a run of bytes as a run of things -/
def rnOf (i : Nat) (l : List Int) : Rn := (List.range l.length).map (fun j => (l.getD j 0, 1048576 * (i : Int) + (j : Int)))
theorem rnOf_length (i : Nat) (l : List Int) : (rnOf i l).length = l.length := by simp [rnOf]
theorem rnOf_at (i : Nat) (l : List Int) (j : Nat) (h : j < l.length) : (rnOf i l)[j]'(by rw [rnOf_length]; exact h) = (l[j], 1048576 * (i : Int) + (j : Int)) := by
  simp [rnOf, List.getD, h]
def rsOf (rr : List (List Int)) : List Rn := (List.range rr.length).map (fun i => rnOf i (rr.getD i []))
theorem rsOf_length (rr : List (List Int)) : (rsOf rr).length = rr.length := by simp [rsOf]
theorem rsOf_at (rr : List (List Int)) (i : Nat) (h : i < rr.length) : (rsOf rr)[i]'(by rw [rsOf_length]; exact h) = rnOf i rr[i] := by
  simp [rsOf, List.getD, h]
theorem rsOf_rises {rr : List (List Int)} (h : ∀ r ∈ rr, Srt r) : Rises (rsOf rr) := by
  intro i hi j hj
  rw [rsOf_length] at hi
  have e := rsOf_at rr i hi
  simp only [e] at hj ⊢
  rw [rnOf_length] at hj
  rw [rnOf_at i _ j (by omega), rnOf_at i _ (j + 1) hj]
  exact h _ (List.getElem_mem hi) j (j + 1) hj (by omega)
def lens (rr : List (List Int)) : Nat := (rr.map List.length).sum
theorem lens_append (a b : List (List Int)) : lens (a ++ b) = lens a + lens b := by simp [lens]
theorem lens_take_succ (rr : List (List Int)) (k : Nat) (h : k < rr.length) : lens (rr.take (k + 1)) = lens (rr.take k) + rr[k].length := by
  rw [List.take_succ_eq_append_getElem h, lens_append]; simp [lens]
theorem lens_take_le (rr : List (List Int)) (k : Nat) : lens (rr.take k) ≤ lens rr := by
  have : lens rr = lens (rr.take k) + lens (rr.drop k) := by rw [← lens_append, List.take_append_drop]
  omega
theorem lens_mem {rr : List (List Int)} {r : List Int} (h : r ∈ rr) : r.length ≤ lens rr := by
  unfold lens
  induction rr with
  | nil => cases h
  | cons a t ih =>
    simp
    rcases List.mem_cons.1 h with rfl | h
    · omega
    · have := ih h; omega
theorem rsOf_total (rr : List (List Int)) : total (rsOf rr) = lens rr := by
  unfold total lens
  congr 1
  apply List.ext_getElem
  · simp [rsOf]
  · intro i h1 h2
    simp at h1 h2
    rw [List.getElem_map, List.getElem_map, rsOf_at rr i (by simpa using h2), rnOf_length]

def wantN (n : Int) (T : Nat) : Nat := if 1 ≤ n ∧ n < T then n.toNat else T

/-- how many of each run are told by the first i steps -/
def plc (tr : List Nat) (m i : Nat) : List Int := (List.range m).map (fun r => (((tr.take i).count r : Nat) : Int))
theorem plc_length (tr : List Nat) (m i : Nat) : (plc tr m i).length = m := by simp [plc]
theorem plc_at (tr : List Nat) (m i r : Nat) (h : r < m) : (plc tr m i)[r]'(by rw [plc_length]; exact h) = (((tr.take i).count r : Nat) : Int) := by simp [plc]
theorem plc_zero (tr : List Nat) (m : Nat) : plc tr m 0 = List.replicate m 0 := by
  apply List.ext_getElem
  · simp [plc]
  · intro i h1 h2; simp [plc]
theorem plc_succ (tr : List Nat) (m i : Nat) (hi : i < tr.length) : plc tr m (i + 1) = (plc tr m i).set tr[i] ((((tr.take i).count tr[i] : Nat) : Int) + 1) := by
  apply List.ext_getElem
  · simp [plc]
  · intro r h1 h2
    rw [plc_length] at h1
    rw [plc_at _ _ _ _ h1, List.getElem_set, List.take_succ_eq_append_getElem hi, count_snoc]
    by_cases e : tr[i] = r
    · rw [if_pos e, if_pos e]
      simp [e]
    · rw [if_neg e, if_neg e, plc_at _ _ _ _ h1]
      rfl

/-- what the check finds at place i of what was told -/
theorem told_at {rr : List (List Int)} {tr : List Nat} {got : Rn} (h : Tr (rsOf rr) tr got) (hl : ∀ r ∈ rr, r.length ≤ 1048576) (i : Nat) (hi : i < tr.length) (hg : i < got.length) :
    ∃ (hr : tr[i] < rr.length) (hp : (tr.take i).count tr[i] < rr[tr[i]].length), got[i] = (rr[tr[i]][(tr.take i).count tr[i]], 1048576 * (tr[i] : Int) + (((tr.take i).count tr[i] : Nat) : Int)) ∧ (tr.take i).count tr[i] < 1048576 := by
  obtain ⟨h1, h2, h3⟩ := h.at' i hi
  have h1' := h1
  rw [rsOf_length] at h1'
  have e := rsOf_at rr tr[i] h1'
  simp only [e] at h2 h3
  have h2' := h2
  rw [rnOf_length] at h2'
  have := hl _ (List.getElem_mem h1')
  exact ⟨h1', h2', by rw [h3, rnOf_at _ _ _ h2'], by omega⟩
end Go.Proofs.YtibofakbhgmhiabGreatDoor
