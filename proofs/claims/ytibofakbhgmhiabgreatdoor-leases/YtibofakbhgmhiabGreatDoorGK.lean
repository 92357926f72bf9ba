import Derived.Test.YtibofakbhgmhiabGreatDoorLsA

namespace Go.Proofs.YtibofakbhgmhiabGreatDoor

/-- an attempt in the statement's book -/
structure Gr where
  ph : Nat
  tk : Nat
  bu : Bool
  ov : Bool
  hd : Nat
deriving Inhabited
def Gr.cnt (lease : Int) (now : Nat) (g : Gr) : Bool := !g.ov && decide ((now : Int) - (g.hd : Int) ≤ lease)
def Gr.at (p k : Nat) (g : Gr) : Bool := g.ph == p && g.tk == k
def Gr.cntAt (lease : Int) (now p k : Nat) (g : Gr) : Bool := g.at p k && g.cnt lease now

def Gr.heard (g : Gr) (n : Nat) : Gr := ⟨g.ph, g.tk, g.bu, g.ov, n⟩
def Gr.gone (g : Gr) : Gr := ⟨g.ph, g.tk, g.bu, true, g.hd⟩
/-- the numbers of those that P picks, and when they were heard of -/
def sel (P : Gr → Bool) : Nat → List Gr → List (Nat × Nat)
  | _, [] => []
  | n, g :: l => if P g then (n + 1, g.hd) :: sel P (n + 1) l else sel P (n + 1) l

theorem sel_append (P : Gr → Bool) (g : Gr) : ∀ (l : List Gr) (n : Nat), sel P n (l ++ [g]) = sel P n l ++ (if P g then [(n + l.length + 1, g.hd)] else [])
  | [], n => by simp [sel]
  | a :: l, n => by
    have ih := sel_append P g l (n + 1)
    simp only [List.cons_append, sel, ih]
    have e : n + 1 + l.length + 1 = n + (a :: l).length + 1 := by simp; omega
    rw [e]
    split <;> simp
theorem sel_length (P : Gr → Bool) : ∀ (l : List Gr) (n : Nat), (sel P n l).length = l.countP P
  | [], n => rfl
  | a :: l, n => by
    have ih := sel_length P l (n + 1)
    by_cases h : P a <;> simp [sel, h, ih]
theorem sel_mem (P : Gr → Bool) (x : Nat × Nat) : ∀ (l : List Gr) (n : Nat), x ∈ sel P n l ↔ ∃ j, ∃ hj : j < l.length, x = (n + j + 1, l[j].hd) ∧ P l[j] = true
  | [], n => by simp [sel]
  | a :: l, n => by
    have ih := sel_mem P x l (n + 1)
    have tail : (∃ j, ∃ hj : j < l.length, x = (n + 1 + j + 1, l[j].hd) ∧ P l[j] = true) → ∃ j, ∃ hj : j < (a :: l).length, x = (n + j + 1, (a :: l)[j].hd) ∧ P (a :: l)[j] = true := by
      rintro ⟨j, hj, e, hp⟩
      exact ⟨j + 1, by simp; omega, by rw [e]; simp; omega, by simpa using hp⟩
    have back : (∃ j, ∃ hj : j < (a :: l).length, x = (n + j + 1, (a :: l)[j].hd) ∧ P (a :: l)[j] = true) → (x = (n + 1, a.hd) ∧ P a = true) ∨ ∃ j, ∃ hj : j < l.length, x = (n + 1 + j + 1, l[j].hd) ∧ P l[j] = true := by
      rintro ⟨j, hj, e, hp⟩
      rcases j with _ | j
      · exact .inl ⟨by simpa using e, by simpa using hp⟩
      · exact .inr ⟨j, by simpa using hj, by rw [e]; simp; omega, by simpa using hp⟩
    by_cases h : P a = true
    · simp only [sel, h, if_true, List.mem_cons, ih]
      constructor
      · rintro (e | e)
        · exact ⟨0, by simp, by simpa using e, by simpa using h⟩
        · exact tail e
      · intro e
        rcases back e with ⟨e, _⟩ | e
        · exact .inl e
        · exact .inr e
    · simp only [sel, h, Bool.false_eq_true, if_false, ih]
      constructor
      · exact tail
      · intro e
        rcases back e with ⟨_, e⟩ | e
        · exact absurd e h
        · exact e
theorem sel_gt (P : Gr → Bool) : ∀ (l : List Gr) (n : Nat), ∀ x ∈ sel P n l, n < x.1 := by
  intro l n x hx
  obtain ⟨j, hj, e, _⟩ := (sel_mem P x l n).1 hx
  rw [e]; simp; omega
theorem sel_sorted (P : Gr → Bool) : ∀ (l : List Gr) (n : Nat), (sel P n l).Pairwise (fun x y => x.1 < y.1)
  | [], n => List.Pairwise.nil
  | a :: l, n => by
    have ih := sel_sorted P l (n + 1)
    by_cases h : P a = true
    · simp only [sel, h, if_true]
      exact List.Pairwise.cons (fun x hx => by have := sel_gt P l (n + 1) x hx; simpa using this) ih
    · simpa [sel, h] using ih
/-- the list is gone over: those that P' picks are those that P picked and q lets be -/
theorem sel_map (P P' : Gr → Bool) (f : Gr → Gr) (q : Nat → Bool) : ∀ (l : List Gr) (n : Nat), (∀ g ∈ l, P' (f g) = (P g && q g.hd) ∧ (f g).hd = g.hd) → sel P' n (l.map f) = (sel P n l).filter (fun x => q x.2)
  | [], n, _ => rfl
  | a :: l, n, h => by
    have ih := sel_map P P' f q l (n + 1) (fun g hg => h g (List.mem_cons_of_mem _ hg))
    obtain ⟨h1, h2⟩ := h a (List.mem_cons_self ..)
    simp only [List.map_cons, sel, h1, h2, ih]
    by_cases hp : P a = true <;> by_cases hq : q a.hd = true <;> simp [hp, hq]
theorem sel_congr (P P' : Gr → Bool) (l : List Gr) (n : Nat) (h : ∀ g ∈ l, P' g = P g) : sel P' n l = sel P n l := by
  have := sel_map P P' id (fun _ => true) l n (fun g hg => ⟨by simpa using h g hg, rfl⟩)
  rw [List.map_id] at this
  rw [this]
  exact List.filter_eq_self.2 (fun _ _ => rfl)
theorem sel_nil (P : Gr → Bool) (l : List Gr) (n : Nat) (h : ∀ g ∈ l, P g = false) : sel P n l = [] := by
  apply List.eq_nil_iff_forall_not_mem.2
  intro x hx
  obtain ⟨j, hj, _, hp⟩ := (sel_mem P x l n).1 hx
  rw [h _ (List.getElem_mem hj)] at hp
  cases hp
/-- one is heard of -/
theorem sel_beat (P : Gr → Bool) (g : Gr) : ∀ (l : List Gr) (n j : Nat) (hj : j < l.length), P g = P l[j] → sel P n (l.set j g) = (sel P n l).map (fun x => if x.1 = n + j + 1 then (x.1, g.hd) else x)
  | [], n, j, hj, _ => absurd hj (Nat.not_lt_zero _)
  | a :: l, n, 0, _, h => by
    have no : (sel P (n + 1) l).map (fun x => if x.1 = n + 0 + 1 then (x.1, g.hd) else x) = sel P (n + 1) l := by
      conv => rhs; rw [← List.map_id (sel P (n + 1) l)]
      apply List.map_congr_left
      intro x hx
      have := sel_gt P l (n + 1) x hx
      rw [if_neg (by omega)]; rfl
    simp only [List.getElem_cons_zero] at h
    simp only [List.set_cons_zero, sel, h]
    split
    · simp only [List.map_cons, no]; simp
    · exact no.symm
  | a :: l, n, j + 1, hj, h => by
    have ih := sel_beat P g l (n + 1) j (by simpa using hj) (by simpa using h)
    have e : n + 1 + j + 1 = n + (j + 1) + 1 := by omega
    rw [e] at ih
    simp only [List.set_cons_succ, sel, ih]
    split
    · simp only [List.map_cons]; rw [if_neg (by simp)]
    · rfl
/-- one is over -/
theorem sel_over (P : Gr → Bool) (g : Gr) (hg : P g = false) : ∀ (l : List Gr) (n j : Nat), j < l.length → sel P n (l.set j g) = (sel P n l).filter (fun x => !(x.1 == n + j + 1))
  | [], n, j, hj => absurd hj (Nat.not_lt_zero _)
  | a :: l, n, 0, _ => by
    have no : (sel P (n + 1) l).filter (fun x => !(x.1 == n + 0 + 1)) = sel P (n + 1) l := by
      apply List.filter_eq_self.2
      intro x hx
      have := sel_gt P l (n + 1) x hx
      simp; omega
    simp only [List.set_cons_zero, sel, hg, Bool.false_eq_true, if_false]
    split
    · rw [List.filter_cons_of_neg (by simp), no]
    · exact no.symm
  | a :: l, n, j + 1, hj => by
    have ih := sel_over P g hg l (n + 1) j (by simpa using hj)
    have e : n + 1 + j + 1 = n + (j + 1) + 1 := by omega
    rw [e] at ih
    simp only [List.set_cons_succ, sel, ih]
    split
    · rw [List.filter_cons_of_pos (by simp)]
    · rfl

/-- of how many tasks a phase is -/
def nOf (M R p : Nat) : Nat := if p = 2 then R else M
/-- how many are not done -/
def leftOf (dn : Nat → Nat → Bool) (p n : Nat) : Nat := (List.range n).countP (fun i => !dn p i)
theorem leftOf_succ (dn : Nat → Nat → Bool) (p i : Nat) : leftOf dn p (i + 1) = leftOf dn p i + (if dn p i = true then 0 else 1) := by
  unfold leftOf
  rw [List.range_succ, List.countP_append]
  by_cases h : dn p i = true <;> simp [h]
theorem leftOf_le (dn : Nat → Nat → Bool) (p n : Nat) : leftOf dn p n ≤ n := by
  have := List.countP_le_length (p := fun i => !dn p i) (l := List.range n)
  simpa [leftOf] using this
end Go.Proofs.YtibofakbhgmhiabGreatDoor

namespace Go.Proofs.YtibofakbhgmhiabGreatDoor
open Go.RowKit

/-- the cells of what was granted -/
def gc : List Gr → List Value
  | [] => []
  | g :: t => .int .i64 g.ph :: .int .i64 g.tk :: .bool g.bu :: .bool g.ov :: .int .i64 g.hd :: gc t
theorem gc_length : ∀ l, (gc l).length = l.length * 5
  | [] => rfl
  | h :: t => by simp [gc, gc_length t]; omega
theorem gc_append : ∀ a b, gc (a ++ b) = gc a ++ gc b
  | [], b => rfl
  | h :: t, b => by simp [gc, gc_append t b]
theorem gc_at : ∀ (l : List Gr) (j : Nat) (h : j < l.length), (gc l)[j * 5]? = some (.int .i64 l[j].ph) ∧ (gc l)[j * 5 + 1]? = some (.int .i64 l[j].tk) ∧ (gc l)[j * 5 + 2]? = some (.bool l[j].bu) ∧ (gc l)[j * 5 + 3]? = some (.bool l[j].ov) ∧ (gc l)[j * 5 + 4]? = some (.int .i64 l[j].hd)
  | [], j, h => absurd h (Nat.not_lt_zero _)
  | p :: ps, 0, _ => ⟨rfl, rfl, rfl, rfl, rfl⟩
  | p :: ps, j + 1, h => by
    have := gc_at ps j (by simpa using h)
    rw [show (j + 1) * 5 = j * 5 + 5 from by omega]
    exact ⟨by simpa [gc] using this.1, by simpa [gc] using this.2.1, by simpa [gc] using this.2.2.1, by simpa [gc] using this.2.2.2.1, by simpa [gc] using this.2.2.2.2⟩

/-- the statement's book in memory -/
structure KB (Wb : Nat) (w : World) (cf : Cf) (l : List Gr) (dn : Nat → Nat → Bool) (now : Nat) (lv : Value) : Prop where
  c0 : w.cell? ⟨Wb, 13, none⟩ = some (.int .i64 cf.maps)
  c1 : w.cell? ⟨Wb, 14, none⟩ = some (.int .i64 cf.reds)
  c2 : w.cell? ⟨Wb, 15, none⟩ = some (.int .i64 cf.wrk)
  c3 : w.cell? ⟨Wb, 16, none⟩ = some (.int .i64 cf.att)
  c4 : w.cell? ⟨Wb, 17, none⟩ = some (.int .i64 cf.bck)
  c5 : w.cell? ⟨Wb, 18, none⟩ = some (.int .i64 cf.lease)
  c6 : w.cell? ⟨Wb, 19, none⟩ = some (.int .i64 cf.late)
  c7 : w.cell? ⟨Wb, 20, none⟩ = some (.int .i64 cf.cap)
  cl : w.cell? ⟨Wb, 21, none⟩ = some lv
  row : w.ownsRow Wb 112 5 lv l.length (gc l)
  cd : ∀ p t, p < 3 → t < 16 → w.cell? ⟨Wb, 22 + p * 16 + t, none⟩ = some (.bool (dn p t))
  cn : w.cell? ⟨Wb, 70, none⟩ = some (.int .i64 now)

theorem KB.below {Wb : Nat} {w w' : World} {cf : Cf} {l : List Gr} {dn : Nat → Nat → Bool} {now : Nat} {lv : Value} (K : KB Wb w cf l dn now lv) (hb : Below w.heap.size w w') : KB Wb w' cf l dn now lv :=
  have hW : Wb < w.heap.size := hp_lt K.cn
  ⟨(hb.cell (p := ⟨Wb, 13, none⟩) hW).trans K.c0, (hb.cell (p := ⟨Wb, 14, none⟩) hW).trans K.c1, (hb.cell (p := ⟨Wb, 15, none⟩) hW).trans K.c2, (hb.cell (p := ⟨Wb, 16, none⟩) hW).trans K.c3, (hb.cell (p := ⟨Wb, 17, none⟩) hW).trans K.c4, (hb.cell (p := ⟨Wb, 18, none⟩) hW).trans K.c5, (hb.cell (p := ⟨Wb, 19, none⟩) hW).trans K.c6, (hb.cell (p := ⟨Wb, 20, none⟩) hW).trans K.c7, (hb.cell (p := ⟨Wb, 21, none⟩) hW).trans K.cl, hown_below K.row hb,
    fun p t hp ht => (hb.cell (p := ⟨Wb, 22 + p * 16 + t, none⟩) hW).trans (K.cd p t hp ht), (hb.cell (p := ⟨Wb, 70, none⟩) hW).trans K.cn⟩
theorem KB.slice {Wb : Nat} {w : World} {cf : Cf} {l : List Gr} {dn : Nat → Nat → Bool} {now : Nat} {lv : Value} (K : KB Wb w cf l dn now lv) : ∃ a c, lv = .slice a l.length c := hown_slice K.row
theorem KB.at {Wb : Nat} {w : World} {cf : Cf} {l : List Gr} {dn : Nat → Nat → Bool} {now : Nat} {lv : Value} (K : KB Wb w cf l dn now lv) (j : Nat) (hj : j < l.length) : ∃ b c, lv = .slice (some ⟨b, 0, none⟩) l.length c ∧ w.cell? ⟨b, j * 5, none⟩ = some (.int .i64 l[j].ph) ∧ w.cell? ⟨b, j * 5 + 1, none⟩ = some (.int .i64 l[j].tk) ∧ w.cell? ⟨b, j * 5 + 2, none⟩ = some (.bool l[j].bu) ∧ w.cell? ⟨b, j * 5 + 3, none⟩ = some (.bool l[j].ov) ∧ w.cell? ⟨b, j * 5 + 4, none⟩ = some (.int .i64 l[j].hd) := by
  have hr := K.row
  rcases hr.2 with ⟨_, hn⟩ | ⟨g, cap, cur, hv, _⟩
  · omega
  · subst hv
    have a := gc_at l j hj
    exact ⟨g, cap, rfl, (hr.cellAt _ (by omega)).trans a.1, (hr.cellAt _ (by omega)).trans a.2.1, (hr.cellAt _ (by omega)).trans a.2.2.1, (hr.cellAt _ (by omega)).trans a.2.2.2.1, (hr.cellAt _ (by omega)).trans a.2.2.2.2⟩

theorem gr_cnt (ph tk hd now : Nat) (bu ov : Bool) (lease : Int) : Gr.cnt lease now ⟨ph, tk, bu, ov, hd⟩ = (!ov && decide ((now : Int) - (hd : Int) ≤ lease)) := rfl

set_option maxHeartbeats 1000000 in
set_option maxRecDepth 100000 in
theorem counts {Wb : Nat} {w : World} {cf : Cf} {l : List Gr} {dn : Nat → Nat → Bool} {now : Nat} {lv : Value} (K : KB Wb w cf l dn now lv) (j : Nat) (hj : j < l.length) (hnow : now ≤ 1048576) (hhd : l[j].hd ≤ now) :
    Calls Tryz.prog 45 #[.pointer (some ⟨Wb, 13, none⟩), .int .i64 j] w fun e w' => e = .returned (.bool (l[j].cnt cf.lease now)) ∧ Below w.heap.size w w' := by
  obtain ⟨b, c, rfl, d0, d1, d2, d3, d4⟩ := K.at j hj
  have c5 := K.c5
  have cl := K.cl
  have cn := K.cn
  clear K d0 d1 d2
  generalize l[j] = g at *
  obtain ⟨ph, tk, bu, ov, hd⟩ := g
  simp only at d3 d4 hhd
  rw [gr_cnt]
  generalize l.length = n at *
  cases ov with
  | true =>
    go_enter Tryz.func45, Tryz.ntmps45
    go_wp2_with fail
    go_quiet (fail)
    go_wp2
    go_ret
    exact ⟨by simp, below_drewN (Below.refl _ _) _⟩
  | false =>
    go_enter Tryz.func45, Tryz.ntmps45
    go_wp2_with fail
    go_quiet (fail)
    go_wp2
    go_ret
    exact ⟨by simp, below_drewN (Below.refl _ _) _⟩

theorem countP_take (P : Gr → Bool) (l : List Gr) (i : Nat) (hi : i < l.length) : (l.take (i + 1)).countP P = (l.take i).countP P + (if P l[i] = true then 1 else 0) := by
  rw [List.take_succ_eq_append_getElem hi, List.countP_append]
  simp [List.countP_cons]
end Go.Proofs.YtibofakbhgmhiabGreatDoor

namespace Go.Proofs.YtibofakbhgmhiabGreatDoor
open Go.RowKit

theorem at_eq (ph tk hd p k : Nat) (bu ov : Bool) : Gr.at p k ⟨ph, tk, bu, ov, hd⟩ = (((ph : Int) == (p : Int)) && ((tk : Int) == (k : Int))) := by
  simp only [Gr.at]
  have e1 : ((ph : Int) == (p : Int)) = (ph == p) := by rw [Bool.eq_iff_iff, beq_iff_eq, beq_iff_eq]; omega
  have e2 : ((tk : Int) == (k : Int)) = (tk == k) := by rw [Bool.eq_iff_iff, beq_iff_eq, beq_iff_eq]; omega
  rw [e1, e2]

set_option maxHeartbeats 2000000 in
set_option maxRecDepth 100000 in
theorem live {Wb : Nat} {w : World} {cf : Cf} {l : List Gr} {dn : Nat → Nat → Bool} {now : Nat} {lv : Value} (K : KB Wb w cf l dn now lv) (p k : Nat) (hN : l.length ≤ 1048576) (hnow : now ≤ 1048576) (hhd : ∀ g ∈ l, g.hd ≤ now) :
    Calls Tryz.prog 81 #[.pointer (some ⟨Wb, 13, none⟩), .int .i64 p, .int .i64 k] w fun e w' => e = .returned (.tuple #[.int .i64 (l.countP (Gr.cntAt cf.lease now p k)), .int .i64 (l.countP (Gr.at p k))]) ∧ Below w.heap.size w w' := by
  go_enter Tryz.func81, Tryz.ntmps81
  go_wp2_with fail
  go_loopw [8, 9, 10] (fun nv av iv wr => ∃ i : Nat, i ≤ l.length ∧ nv = .int .i64 ((l.take i).countP (Gr.cntAt cf.lease now p k)) ∧ av = .int .i64 ((l.take i).countP (Gr.at p k)) ∧ iv = .int .i64 i ∧ Below w.heap.size w wr) (fun _ _ iv _ => l.length - (intOf iv).toNat)
  case atStart => exact ⟨0, Nat.zero_le _, rfl, rfl, rfl, Below.refl _ _⟩
  case round =>
    obtain ⟨i, hi, rfl, rfl, rfl, hb⟩ := hrel
    have Kr := K.below hb
    by_cases hil : i < l.length
    · obtain ⟨b, c, rfl, d0, d1, d2, d3, d4⟩ := Kr.at i hil
      have cl := Kr.cl
      have HC : Hid (Calls Tryz.prog 45 #[.pointer (some ⟨Wb, 13, none⟩), .int .i64 i] wr fun e w' => e = .returned (.bool (l[i].cnt cf.lease now)) ∧ Below w.heap.size w w') := by
        refine (counts Kr i hil hnow (hhd _ (List.getElem_mem hil))).mono ?_
        rintro e w1 ⟨rfl, hb1⟩
        exact ⟨rfl, hb.trans (hb1.mono hb.size)⟩
      have hn1 := List.countP_le_length (p := Gr.cntAt cf.lease now p k) (l := l.take i)
      have hn2 := List.countP_le_length (p := Gr.at p k) (l := l.take i)
      have hlt : (l.take i).length ≤ 1048576 := by simp; omega
      have HT1 : Hid ((l.take (i + 1)).countP (Gr.cntAt cf.lease now p k) = (l.take i).countP (Gr.cntAt cf.lease now p k) + (if (l[i].at p k && l[i].cnt cf.lease now) = true then 1 else 0)) := countP_take (Gr.cntAt cf.lease now p k) l i hil
      have HT2 : Hid ((l.take (i + 1)).countP (Gr.at p k) = (l.take i).countP (Gr.at p k) + (if l[i].at p k = true then 1 else 0)) := countP_take _ l i hil
      clear K Kr d2 d3 d4 hhd
      generalize (l.take i).countP (Gr.cntAt cf.lease now p k) = x1 at *
      generalize (l.take i).countP (Gr.at p k) = x2 at *
      generalize l[i] = g at *
      generalize hcn : g.cnt cf.lease now = cn at *
      obtain ⟨ph, tk, bu, ov, hd⟩ := g
      simp only at d0 d1
      rw [at_eq] at HT1 HT2
      generalize (l.take i).length = m at *
      clear hcn
      by_cases e1 : (ph : Int) = p
      · have b1 : ((ph : Int) == (p : Int)) = true := by simpa using e1
        by_cases e2 : (tk : Int) = k
        · have b2 : ((tk : Int) == (k : Int)) = true := by simpa using e2
          rw [b1, b2] at HT1 HT2
          cases cn with
          | true =>
            go_wp2_with (go_at_call 45; refine HC.out.mono ?_; rintro e w1 ⟨rfl, hb1⟩)
            go_roundw
            case rel => exact ⟨i + 1, by omega, by rw [HT1.out]; go_num, by rw [HT2.out]; go_num, by go_num, hb1⟩
            case measure => simp [intOf]; omega
          | false =>
            go_wp2_with (go_at_call 45; refine HC.out.mono ?_; rintro e w1 ⟨rfl, hb1⟩)
            go_roundw
            case rel => exact ⟨i + 1, by omega, by rw [HT1.out]; go_num, by rw [HT2.out]; go_num, by go_num, hb1⟩
            case measure => simp [intOf]; omega
        · have b2 : ((tk : Int) == (k : Int)) = false := by simpa using e2
          rw [b1, b2] at HT1 HT2
          go_wp2
          go_roundw
          case rel => exact ⟨i + 1, by omega, by rw [HT1.out]; go_num, by rw [HT2.out]; go_num, by go_num, hb⟩
          case measure => simp [intOf]; omega
      · have b1 : ((ph : Int) == (p : Int)) = false := by simpa using e1
        rw [b1] at HT1 HT2
        go_wp2
        go_roundw
        case rel => exact ⟨i + 1, by omega, by rw [HT1.out]; go_num, by rw [HT2.out]; go_num, by go_num, hb⟩
        case measure => simp [intOf]; omega
    · obtain rfl : i = l.length := by omega
      obtain ⟨a, c, rfl⟩ := K.slice
      have cl := Kr.cl
      rw [List.take_length]
      clear K Kr hhd
      go_wp2
      go_ret2
      exact ⟨rfl, hb⟩
end Go.Proofs.YtibofakbhgmhiabGreatDoor

namespace Go.Proofs.YtibofakbhgmhiabGreatDoor
open Go.RowKit

set_option maxHeartbeats 2000000 in
set_option maxRecDepth 100000 in
theorem left {Wb : Nat} {w : World} {cf : Cf} {l : List Gr} {dn : Nat → Nat → Bool} {now : Nat} {lv : Value} (K : KB Wb w cf l dn now lv) (M R : Nat) (hM : cf.maps = (M : Int)) (hR : cf.reds = (R : Int)) (hM2 : M ≤ 16) (hR2 : R ≤ 16) (p : Nat) (hp : p = 1 ∨ p = 2) :
    Calls Tryz.prog 78 #[.pointer (some ⟨Wb, 13, none⟩), .int .i64 p] w fun e w' => e = .returned (.int .i64 (leftOf dn p (nOf M R p))) ∧ Below w.heap.size w w' := by
  have c0 := K.c0
  have c1 := K.c1
  rw [hM] at c0
  rw [hR] at c1
  rcases hp with rfl | rfl
  · have hn : nOf M R 1 = M := rfl
    rw [hn]
    go_enter Tryz.func78, Tryz.ntmps78
    go_wp2_with fail
    go_loopw [6, 7] (fun kv iv wr => ∃ i : Nat, i ≤ M ∧ kv = .int .i64 (leftOf dn 1 i) ∧ iv = .int .i64 i ∧ Below w.heap.size w wr) (fun _ iv _ => M - (intOf iv).toNat)
    case atStart => exact ⟨0, Nat.zero_le _, rfl, rfl, Below.refl _ _⟩
    case round =>
      obtain ⟨i, hi, rfl, rfl, hb⟩ := hrel
      by_cases hil : i < M
      · have d := (K.below hb).cd 1 i (by omega) (by omega)
        have HL : Hid (leftOf dn 1 (i + 1) = leftOf dn 1 i + (if dn 1 i = true then 0 else 1)) := leftOf_succ dn 1 i
        have hle := leftOf_le dn 1 i
        have hi16 : (i : Int) < 16 := by omega
        clear K c0 c1
        generalize leftOf dn 1 i = x at *
        cases hd : dn 1 i with
        | true =>
          rw [hd] at d HL
          clear hd
          go_wp2
          go_roundw
          case rel => exact ⟨i + 1, by omega, by rw [HL.out]; go_num, by go_num, hb⟩
          case measure => simp [intOf]; omega
        | false =>
          rw [hd] at d HL
          clear hd
          go_wp2
          go_roundw
          case rel => exact ⟨i + 1, by omega, by rw [HL.out]; go_num, by go_num, hb⟩
          case measure => simp [intOf]; omega
      · obtain rfl : i = M := by omega
        clear K
        go_wp2
        go_ret
        exact ⟨rfl, hb⟩
  · have hn : nOf M R 2 = R := rfl
    rw [hn]
    go_enter Tryz.func78, Tryz.ntmps78
    go_wp2_with fail
    go_loopw [6, 7] (fun kv iv wr => ∃ i : Nat, i ≤ R ∧ kv = .int .i64 (leftOf dn 2 i) ∧ iv = .int .i64 i ∧ Below w.heap.size w wr) (fun _ iv _ => R - (intOf iv).toNat)
    case atStart => exact ⟨0, Nat.zero_le _, rfl, rfl, Below.refl _ _⟩
    case round =>
      obtain ⟨i, hi, rfl, rfl, hb⟩ := hrel
      by_cases hil : i < R
      · have d := (K.below hb).cd 2 i (by omega) (by omega)
        have HL : Hid (leftOf dn 2 (i + 1) = leftOf dn 2 i + (if dn 2 i = true then 0 else 1)) := leftOf_succ dn 2 i
        have hle := leftOf_le dn 2 i
        have hi16 : (i : Int) < 16 := by omega
        clear K c0 c1
        generalize leftOf dn 2 i = x at *
        cases hd : dn 2 i with
        | true =>
          rw [hd] at d HL
          clear hd
          go_wp2
          go_roundw
          case rel => exact ⟨i + 1, by omega, by rw [HL.out]; go_num, by go_num, hb⟩
          case measure => simp [intOf]; omega
        | false =>
          rw [hd] at d HL
          clear hd
          go_wp2
          go_roundw
          case rel => exact ⟨i + 1, by omega, by rw [HL.out]; go_num, by go_num, hb⟩
          case measure => simp [intOf]; omega
      · obtain rfl : i = R := by omega
        clear K
        go_wp2
        go_ret
        exact ⟨rfl, hb⟩

/-- is the answer to a call about attempt id what the book has? -/
def fitsR (cf : Cf) (l : List Gr) (now : Nat) (id n : Int) : Prop := (¬ (1 ≤ id ∧ id ≤ l.length) ∧ n = 6) ∨ ∃ j, ∃ hj : j < l.length, id = (j : Int) + 1 ∧ ((l[j].cnt cf.lease now = true ∧ n = 0) ∨ (l[j].cnt cf.lease now = false ∧ n = 7))

set_option maxHeartbeats 2000000 in
set_option maxRecDepth 100000 in
theorem fits {Wb : Nat} {w : World} {cf : Cf} {l : List Gr} {dn : Nat → Nat → Bool} {now : Nat} {lv : Value} (K : KB Wb w cf l dn now lv) (id n : Int) (hN : l.length ≤ 1048576) (hnow : now ≤ 1048576) (hhd : ∀ g ∈ l, g.hd ≤ now) (hf : fitsR cf l now id n) :
    Calls Tryz.prog 42 #[.pointer (some ⟨Wb, 0, none⟩), .int .i64 id, .int .i64 n] w fun e w' => e = .returned (.bool true) ∧ Below w.heap.size w w' := by
  have cl := K.cl
  rcases hf with ⟨hno, rfl⟩ | ⟨j, hj, rfl, hc⟩
  · obtain ⟨a, c, rfl⟩ := K.slice
    clear K hhd
    generalize l.length = m at *
    by_cases h1 : id < 1
    · go_enter Tryz.func42, Tryz.ntmps42
      go_wp2
      go_ret
      exact ⟨rfl, Below.refl _ _⟩
    · have h2 : (m : Int) < id := by omega
      go_enter Tryz.func42, Tryz.ntmps42
      go_wp2
      go_ret
      exact ⟨rfl, Below.refl _ _⟩
  · obtain ⟨a, c, rfl⟩ := K.slice
    have HC : Hid (Calls Tryz.prog 45 #[.pointer (some ⟨Wb, 13, none⟩), .int .i64 j] w fun e w' => e = .returned (.bool (l[j].cnt cf.lease now)) ∧ Below w.heap.size w w') := counts K j hj hnow (hhd _ (List.getElem_mem hj))
    clear K hhd
    have h1 : ¬ ((j : Int) + 1 < 1) := by omega
    have h2 : ¬ ((l.length : Int) < (j : Int) + 1) := by omega
    rcases hc with ⟨hc, rfl⟩ | ⟨hc, rfl⟩
    · rw [hc] at HC
      clear hc
      generalize l.length = m at *
      go_enter Tryz.func42, Tryz.ntmps42
      go_wp2_with (go_at_call 45; refine HC.out.mono ?_; rintro e w1 ⟨rfl, hb1⟩)
      go_ret
      exact ⟨rfl, hb1⟩
    · rw [hc] at HC
      clear hc
      generalize l.length = m at *
      go_enter Tryz.func42, Tryz.ntmps42
      go_wp2_with (go_at_call 45; refine HC.out.mono ?_; rintro e w1 ⟨rfl, hb1⟩)
      go_ret
      exact ⟨rfl, hb1⟩
end Go.Proofs.YtibofakbhgmhiabGreatDoor

namespace Go.Proofs.YtibofakbhgmhiabGreatDoor
open Go.RowKit

set_option maxHeartbeats 2000000 in
set_option maxRecDepth 100000 in
theorem busy {Wb : Nat} {w : World} {cf : Cf} {l : List Gr} {dn : Nat → Nat → Bool} {now : Nat} {lv : Value} (K : KB Wb w cf l dn now lv) (M R : Nat) (hM : cf.maps = (M : Int)) (hR : cf.reds = (R : Int)) (hM2 : M ≤ 16) (hR2 : R ≤ 16) (hN : l.length ≤ 1048576) (hnow : now ≤ 1048576) (hhd : ∀ g ∈ l, g.hd ≤ now) (p : Nat) (hp : (p = 1 ∧ 0 < leftOf dn 1 M) ∨ (p = 2 ∧ leftOf dn 1 M = 0)) (hall : ∀ i, i < nOf M R p → dn p i = true ∨ 0 < l.countP (Gr.cntAt cf.lease now p i)) :
    Calls Tryz.prog 79 #[.pointer (some ⟨Wb, 13, none⟩)] w fun e w' => e = .returned (.bool true) ∧ Below w.heap.size w w' := by
  have HL : Hid (Calls Tryz.prog 78 #[.pointer (some ⟨Wb, 13, none⟩), .int .i64 1] w fun e w' => e = .returned (.int .i64 (leftOf dn 1 M)) ∧ (w'.cell? ⟨Wb, 13, none⟩ = some (.int .i64 M) ∧ w'.cell? ⟨Wb, 14, none⟩ = some (.int .i64 R)) ∧ Below w.heap.size w w') := by
    refine (left K M R hM hR hM2 hR2 1 (.inl rfl)).mono ?_
    rintro e w1 ⟨rfl, hb1⟩
    have K1 := K.below hb1
    exact ⟨rfl, ⟨by rw [← hM]; exact K1.c0, by rw [← hR]; exact K1.c1⟩, hb1⟩
  rcases hp with ⟨rfl, hp⟩ | ⟨rfl, hp⟩
  · have hn : nOf M R 1 = M := rfl
    rw [hn] at hall
    have HNE : Hid (¬ ((leftOf dn 1 M : Int) = 0)) := by show ¬ _; omega
    clear hp
    generalize leftOf dn 1 M = lf at *
    go_enter Tryz.func79, Tryz.ntmps79
    go_wp2_with (go_at_call 78; refine HL.out.mono ?_; rintro e w1 ⟨rfl, ⟨z0, z1⟩, hbl⟩)
    · rename_i h0 _ _
      exact absurd (by simpa using h0) HNE.out
    rename_i h0 _ _
    clear h0
    go_loopw [5] (fun iv wr => ∃ i : Nat, i ≤ M ∧ iv = .int .i64 i ∧ Below w.heap.size w wr) (fun iv _ => M - (intOf iv).toNat)
    case atStart => exact ⟨0, Nat.zero_le _, rfl, hbl⟩
    case round =>
      obtain ⟨i, hi, rfl, hb⟩ := hrel
      by_cases hil : i < M
      · have Kr := K.below hb
        have HV : Hid (Calls Tryz.prog 81 #[.pointer (some ⟨Wb, 13, none⟩), .int .i64 1, .int .i64 i] wr fun e w' => e = .returned (.tuple #[.int .i64 (l.countP (Gr.cntAt cf.lease now 1 i)), .int .i64 (l.countP (Gr.at 1 i))]) ∧ w'.cell? ⟨Wb, 22 + 1 * 16 + i, none⟩ = some (.bool (dn 1 i)) ∧ Below w.heap.size w w') := by
          refine (live Kr 1 i hN hnow hhd).mono ?_
          rintro e w1 ⟨rfl, hb1⟩
          exact ⟨rfl, (Kr.below hb1).cd 1 i (by omega) (by omega), hb.trans (hb1.mono hb.size)⟩
        have ha := hall i hil
        have hi16 : (i : Int) < 16 := by omega
        clear K Kr hall hhd HL z0 z1
        generalize l.countP (Gr.cntAt cf.lease now 1 i) = x1 at *
        generalize l.countP (Gr.at 1 i) = x2 at *
        generalize dn 1 i = d at *
        cases d with
        | true =>
          clear ha
          go_wp2_with (go_at_call 81; refine HV.out.mono ?_; rintro e w2 ⟨rfl, cd, hb2⟩)
          go_roundw
          case rel => exact ⟨i + 1, by omega, by go_num, hb2⟩
          case measure => simp [intOf]; omega
        | false =>
          have hx : 0 < x1 := by rcases ha with h | h; cases h; exact h
          have hx2 : ¬ ((x1 : Int) = 0) := by omega
          clear ha
          go_wp2_with (go_at_call 81; refine HV.out.mono ?_; rintro e w2 ⟨rfl, cd, hb2⟩)
          go_roundw
          case rel => exact ⟨i + 1, by omega, by go_num, hb2⟩
          case measure => simp [intOf]; omega
      · clear K hall hhd HL z0 z1
        go_wp2
        go_ret
        exact ⟨rfl, hb⟩
  · have hn : nOf M R 2 = R := rfl
    rw [hn] at hall
    rw [hp] at HL
    clear hp
    go_enter Tryz.func79, Tryz.ntmps79
    go_wp2_with (go_at_call 78; refine HL.out.mono ?_; rintro e w1 ⟨rfl, ⟨z0, z1⟩, hbl⟩)
    go_loopw [5] (fun iv wr => ∃ i : Nat, i ≤ R ∧ iv = .int .i64 i ∧ Below w.heap.size w wr) (fun iv _ => R - (intOf iv).toNat)
    case atStart => exact ⟨0, Nat.zero_le _, rfl, hbl⟩
    case round =>
      obtain ⟨i, hi, rfl, hb⟩ := hrel
      by_cases hil : i < R
      · have Kr := K.below hb
        have HV : Hid (Calls Tryz.prog 81 #[.pointer (some ⟨Wb, 13, none⟩), .int .i64 2, .int .i64 i] wr fun e w' => e = .returned (.tuple #[.int .i64 (l.countP (Gr.cntAt cf.lease now 2 i)), .int .i64 (l.countP (Gr.at 2 i))]) ∧ w'.cell? ⟨Wb, 22 + 2 * 16 + i, none⟩ = some (.bool (dn 2 i)) ∧ Below w.heap.size w w') := by
          refine (live Kr 2 i hN hnow hhd).mono ?_
          rintro e w1 ⟨rfl, hb1⟩
          exact ⟨rfl, (Kr.below hb1).cd 2 i (by omega) (by omega), hb.trans (hb1.mono hb.size)⟩
        have ha := hall i hil
        have hi16 : (i : Int) < 16 := by omega
        clear K Kr hall hhd HL z0 z1
        generalize l.countP (Gr.cntAt cf.lease now 2 i) = x1 at *
        generalize l.countP (Gr.at 2 i) = x2 at *
        generalize dn 2 i = d at *
        cases d with
        | true =>
          clear ha
          go_wp2_with (go_at_call 81; refine HV.out.mono ?_; rintro e w2 ⟨rfl, cd, hb2⟩)
          go_roundw
          case rel => exact ⟨i + 1, by omega, by go_num, hb2⟩
          case measure => simp [intOf]; omega
        | false =>
          have hx : 0 < x1 := by rcases ha with h | h; cases h; exact h
          have hx2 : ¬ ((x1 : Int) = 0) := by omega
          clear ha
          go_wp2_with (go_at_call 81; refine HV.out.mono ?_; rintro e w2 ⟨rfl, cd, hb2⟩)
          go_roundw
          case rel => exact ⟨i + 1, by omega, by go_num, hb2⟩
          case measure => simp [intOf]; omega
      · clear K hall hhd HL z0 z1
        go_wp2
        go_ret
        exact ⟨rfl, hb⟩

set_option maxHeartbeats 4000000 in
set_option maxRecDepth 100000 in
theorem lost {Wb : Nat} {w : World} {cf : Cf} {l : List Gr} {dn : Nat → Nat → Bool} {now : Nat} {lv : Value} (K : KB Wb w cf l dn now lv) (hN : l.length ≤ 1048576) (hnow : now ≤ 1048576) (hhd : ∀ g ∈ l, g.hd ≤ now) (pw kw : Nat) (hp : 1 ≤ pw ∧ pw ≤ 2) (hk : kw < 16) (hd : dn pw kw = false) (hc : l.countP (Gr.cntAt cf.lease now pw kw) = 0) (ha : cf.att ≤ (l.countP (Gr.at pw kw) : Int)) :
    Calls Tryz.prog 80 #[.pointer (some ⟨Wb, 13, none⟩)] w fun e w' => e = .returned (.bool true) ∧ Below w.heap.size w w' := by
  go_enter Tryz.func80, Tryz.ntmps80
  go_wp2_with fail
  go_loopw [3] (fun pv wr => ((pv = .int .i64 1 ∧ 1 ≤ pw) ∨ (pv = .int .i64 2 ∧ 2 ≤ pw)) ∧ Below w.heap.size w wr) (fun pv _ => 3 - (intOf pv).toNat)
  case atStart => exact ⟨.inl ⟨rfl, hp.1⟩, Below.refl _ _⟩
  case round =>
    obtain ⟨hpc, hb⟩ := hrel
    rcases hpc with ⟨rfl, hpl⟩ | ⟨rfl, hpl⟩
    · have HW : Hid (∀ i, i < 16 → (1 = pw → i ≤ kw) → (dn 1 i = false ∧ l.countP (Gr.cntAt cf.lease now 1 i) = 0 ∧ cf.att ≤ (l.countP (Gr.at 1 i) : Int)) ∨ ((1 = pw → i + 1 ≤ kw))) := by
        intro i hi hle
        by_cases e : 1 = pw ∧ i = kw
        · obtain ⟨e1, e2⟩ := e
          rw [e2, e1]
          exact .inl ⟨hd, hc, ha⟩
        · exact .inr (fun e1 => by have := hle e1; omega)
      go_wp2_with fail
      go_loopw [4] (fun iv wr => ∃ i : Nat, i ≤ 16 ∧ (1 = pw → i ≤ kw) ∧ iv = .int .i64 i ∧ Below w.heap.size w wr) (fun iv _ => 16 - (intOf iv).toNat)
      case atStart => exact ⟨0, by omega, fun _ => Nat.zero_le _, rfl, hb⟩
      case round =>
        obtain ⟨i, hi, hle, rfl, hbi⟩ := hrel
        by_cases hil : i < 16
        · have Kr := K.below hbi
          have HV : Hid (Calls Tryz.prog 81 #[.pointer (some ⟨Wb, 13, none⟩), .int .i64 1, .int .i64 i] wr fun e w' => e = .returned (.tuple #[.int .i64 (l.countP (Gr.cntAt cf.lease now 1 i)), .int .i64 (l.countP (Gr.at 1 i))]) ∧ w'.cell? ⟨Wb, 22 + 1 * 16 + i, none⟩ = some (.bool (dn 1 i)) ∧ w'.cell? ⟨Wb, 16, none⟩ = some (.int .i64 cf.att) ∧ Below w.heap.size w w') := by
            refine (live Kr 1 i hN hnow hhd).mono ?_
            rintro e w1 ⟨rfl, hb1⟩
            exact ⟨rfl, (Kr.below hb1).cd 1 i (by omega) (by omega), (Kr.below hb1).c3, hbi.trans (hb1.mono hbi.size)⟩
          have hw := HW.out i hil hle
          have hi16 : (i : Int) < 16 := by omega
          clear K Kr hhd HW hle hd hc ha
          generalize l.countP (Gr.cntAt cf.lease now 1 i) = x1 at *
          generalize l.countP (Gr.at 1 i) = x2 at *
          generalize dn 1 i = d at *
          by_cases hall : d = false ∧ x1 = 0 ∧ cf.att ≤ (x2 : Int)
          · obtain ⟨rfl, rfl, h3⟩ := hall
            clear hw
            go_wp2_with (go_at_call 81; refine HV.out.mono ?_; rintro e w2 ⟨rfl, cd, c3, hb2⟩)
            go_ret
            exact ⟨rfl, hb2⟩
          · have hw2 : 1 = pw → i + 1 ≤ kw := by
              rcases hw with h | h
              · exact absurd h hall
              · exact h
            have HW2 : Hid (1 = pw → i + 1 ≤ kw) := hw2
            clear hw hw2
            cases d with
            | true =>
              clear hall
              go_wp2_with (go_at_call 81; refine HV.out.mono ?_; rintro e w2 ⟨rfl, cd, c3, hb2⟩)
              go_roundw
              case rel => exact ⟨i + 1, by omega, HW2.out, by go_num, hb2⟩
              case measure => simp [intOf]; omega
            | false =>
              by_cases h1 : x1 = 0
              · have h3 : ¬ (cf.att ≤ (x2 : Int)) := fun h => hall ⟨rfl, h1, h⟩
                subst h1
                clear hall
                go_wp2_with (go_at_call 81; refine HV.out.mono ?_; rintro e w2 ⟨rfl, cd, c3, hb2⟩)
                go_roundw
                case rel => exact ⟨i + 1, by omega, HW2.out, by go_num, hb2⟩
                case measure => simp [intOf]; omega
              · have h1' : ¬ ((x1 : Int) = 0) := by omega
                clear hall
                go_wp2_with (go_at_call 81; refine HV.out.mono ?_; rintro e w2 ⟨rfl, cd, c3, hb2⟩)
                go_roundw
                case rel => exact ⟨i + 1, by omega, HW2.out, by go_num, hb2⟩
                case measure => simp [intOf]; omega
        · have HP : Hid (1 + 1 ≤ pw) := by
            show 1 + 1 ≤ pw
            have : ¬ (1 = pw) := fun e => by have := hle e; omega
            omega
          clear K hhd HW hle hd hc ha
          go_wp2_with fail
          go_roundw
          case rel => exact ⟨.inr ⟨rfl, HP.out⟩, hbi⟩
          case measure => simp [intOf]
    · have HW : Hid (∀ i, i < 16 → (2 = pw → i ≤ kw) → (dn 2 i = false ∧ l.countP (Gr.cntAt cf.lease now 2 i) = 0 ∧ cf.att ≤ (l.countP (Gr.at 2 i) : Int)) ∨ ((2 = pw → i + 1 ≤ kw))) := by
        intro i hi hle
        by_cases e : 2 = pw ∧ i = kw
        · obtain ⟨e1, e2⟩ := e
          rw [e2, e1]
          exact .inl ⟨hd, hc, ha⟩
        · exact .inr (fun e1 => by have := hle e1; omega)
      go_wp2_with fail
      go_loopw [4] (fun iv wr => ∃ i : Nat, i ≤ 16 ∧ (2 = pw → i ≤ kw) ∧ iv = .int .i64 i ∧ Below w.heap.size w wr) (fun iv _ => 16 - (intOf iv).toNat)
      case atStart => exact ⟨0, by omega, fun _ => Nat.zero_le _, rfl, hb⟩
      case round =>
        obtain ⟨i, hi, hle, rfl, hbi⟩ := hrel
        by_cases hil : i < 16
        · have Kr := K.below hbi
          have HV : Hid (Calls Tryz.prog 81 #[.pointer (some ⟨Wb, 13, none⟩), .int .i64 2, .int .i64 i] wr fun e w' => e = .returned (.tuple #[.int .i64 (l.countP (Gr.cntAt cf.lease now 2 i)), .int .i64 (l.countP (Gr.at 2 i))]) ∧ w'.cell? ⟨Wb, 22 + 2 * 16 + i, none⟩ = some (.bool (dn 2 i)) ∧ w'.cell? ⟨Wb, 16, none⟩ = some (.int .i64 cf.att) ∧ Below w.heap.size w w') := by
            refine (live Kr 2 i hN hnow hhd).mono ?_
            rintro e w1 ⟨rfl, hb1⟩
            exact ⟨rfl, (Kr.below hb1).cd 2 i (by omega) (by omega), (Kr.below hb1).c3, hbi.trans (hb1.mono hbi.size)⟩
          have hw := HW.out i hil hle
          have hi16 : (i : Int) < 16 := by omega
          clear K Kr hhd HW hle hd hc ha
          generalize l.countP (Gr.cntAt cf.lease now 2 i) = x1 at *
          generalize l.countP (Gr.at 2 i) = x2 at *
          generalize dn 2 i = d at *
          by_cases hall : d = false ∧ x1 = 0 ∧ cf.att ≤ (x2 : Int)
          · obtain ⟨rfl, rfl, h3⟩ := hall
            clear hw
            go_wp2_with (go_at_call 81; refine HV.out.mono ?_; rintro e w2 ⟨rfl, cd, c3, hb2⟩)
            go_ret
            exact ⟨rfl, hb2⟩
          · have hw2 : 2 = pw → i + 1 ≤ kw := by
              rcases hw with h | h
              · exact absurd h hall
              · exact h
            have HW2 : Hid (2 = pw → i + 1 ≤ kw) := hw2
            clear hw hw2
            cases d with
            | true =>
              clear hall
              go_wp2_with (go_at_call 81; refine HV.out.mono ?_; rintro e w2 ⟨rfl, cd, c3, hb2⟩)
              go_roundw
              case rel => exact ⟨i + 1, by omega, HW2.out, by go_num, hb2⟩
              case measure => simp [intOf]; omega
            | false =>
              by_cases h1 : x1 = 0
              · have h3 : ¬ (cf.att ≤ (x2 : Int)) := fun h => hall ⟨rfl, h1, h⟩
                subst h1
                clear hall
                go_wp2_with (go_at_call 81; refine HV.out.mono ?_; rintro e w2 ⟨rfl, cd, c3, hb2⟩)
                go_roundw
                case rel => exact ⟨i + 1, by omega, HW2.out, by go_num, hb2⟩
                case measure => simp [intOf]; omega
              · have h1' : ¬ ((x1 : Int) = 0) := by omega
                clear hall
                go_wp2_with (go_at_call 81; refine HV.out.mono ?_; rintro e w2 ⟨rfl, cd, c3, hb2⟩)
                go_roundw
                case rel => exact ⟨i + 1, by omega, HW2.out, by go_num, hb2⟩
                case measure => simp [intOf]; omega
        · have hf : False := by
            have : ¬ (2 = pw) := fun e => by have := hle e; omega
            omega
          exact hf.elim
end Go.Proofs.YtibofakbhgmhiabGreatDoor
