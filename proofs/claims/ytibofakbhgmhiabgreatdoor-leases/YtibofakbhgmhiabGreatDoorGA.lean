import Derived.Shelf.Sort.Plain
import Derived.Shelf.Slices.In.SortNone
import Derived.Sort.OwnSortedInts
import Derived.Test.YtibofakbhgmhiabGreatDoorProg
import Derived.Test.YtibofakbhgmhiabGreatDoorGK
import Derived.Test.YtibofakbhgmhiabGreatDoorG1
import Derived.Test.YtibofakbhgmhiabGreatDoorGB
import Derived.Defers
import Derived.Test.YtibofakbhgmhiabGreatDoorNum
import Derived.Deep.RegionHeld3
import Derived.Deep.RegionLaw
import Derived.Deep.AppendLies

namespace Go.Proofs
open Go.Shelf
def Tryz.laysSort_ren : Go.Shelf.Ren := ⟨fun | 125 => 286 | 128 => 338 | 129 => 339 | 189 => 237 | 215 => 365 | 216 => 335 | 257 => 285 | 294 => 329 | 295 => 330 | 296 => 331 | 297 => 332 | 298 => 333 | 299 => 334 | 300 => 336 | 301 => 337 | 328 => 360 | 329 => 361 | 330 => 362 | 331 => 363 | 332 => 364 | 343 => 385 | n => n, fun | 0 => 0 | 3 => 3 | 4 => 4 | 5 => 5 | 9 => 9 | 28 => 66 | 46 => 308 | 51 => 120 | 53 => 231 | 131 => 208 | 182 => 461 | 183 => 462 | 218 => 481 | 222 => 484 | 228 => 495 | 229 => 73 | n => n, fun | n => n⟩
set_option maxRecDepth 100000 in
theorem Tryz.laysSort : Lays.n189 Tryz.prog Tryz.laysSort_ren := {
  mixed := by kernel_rfl
  f125 := Tryz.func286.trans (congrArg some (by kernel_rfl))
  f128 := Tryz.func338.trans (congrArg some (by kernel_rfl))
  f129 := Tryz.func339.trans (congrArg some (by kernel_rfl))
  f189 := Tryz.func237.trans (congrArg some (by kernel_rfl))
  f215 := Tryz.func365.trans (congrArg some (by kernel_rfl))
  f216 := Tryz.func335.trans (congrArg some (by kernel_rfl))
  f257 := Tryz.func285.trans (congrArg some (by kernel_rfl))
  f294 := Tryz.func329.trans (congrArg some (by kernel_rfl))
  f295 := Tryz.func330.trans (congrArg some (by kernel_rfl))
  f296 := Tryz.func331.trans (congrArg some (by kernel_rfl))
  f297 := Tryz.func332.trans (congrArg some (by kernel_rfl))
  f298 := Tryz.func333.trans (congrArg some (by kernel_rfl))
  f299 := Tryz.func334.trans (congrArg some (by kernel_rfl))
  f300 := Tryz.func336.trans (congrArg some (by kernel_rfl))
  f301 := Tryz.func337.trans (congrArg some (by kernel_rfl))
  f328 := Tryz.func360.trans (congrArg some (by kernel_rfl))
  f329 := Tryz.func361.trans (congrArg some (by kernel_rfl))
  f330 := Tryz.func362.trans (congrArg some (by kernel_rfl))
  f331 := Tryz.func363.trans (congrArg some (by kernel_rfl))
  f332 := Tryz.func364.trans (congrArg some (by kernel_rfl))
  f343 := Tryz.func385.trans (congrArg some (by kernel_rfl))
  t0 := Tryz.underlying0
  a0 := Tryz.isAgg0
  z0 := Tryz.sizeOf0
  v0 := Tryz.zeroValue0
  t3 := Tryz.underlying3
  a3 := Tryz.isAgg3
  z3 := Tryz.sizeOf3
  v3 := Tryz.zeroValue3
  t4 := Tryz.underlying4
  a4 := Tryz.isAgg4
  z4 := Tryz.sizeOf4
  v4 := Tryz.zeroValue4
  t5 := Tryz.underlying5
  a5 := Tryz.isAgg5
  z5 := Tryz.sizeOf5
  v5 := Tryz.zeroValue5
  t9 := Tryz.underlying9
  a9 := Tryz.isAgg9
  z9 := Tryz.sizeOf9
  v9 := Tryz.zeroValue9
  t28 := Tryz.underlying66
  a28 := Tryz.isAgg66
  z28 := Tryz.sizeOf66
  v28 := Tryz.zeroValue66
  t46 := Tryz.underlying308
  a46 := Tryz.isAgg308
  z46 := Tryz.sizeOf308
  v46 := Tryz.zeroValue308
  t51 := Tryz.underlying120
  a51 := Tryz.isAgg120
  z51 := Tryz.sizeOf120
  v51 := Tryz.zeroValue120
  t53 := Tryz.underlying231
  a53 := Tryz.isAgg231
  z53 := Tryz.sizeOf231
  v53 := Tryz.zeroValue231
  t131 := Tryz.underlying208
  a131 := Tryz.isAgg208
  z131 := Tryz.sizeOf208
  v131 := Tryz.zeroValue208
  t182 := Tryz.underlying461
  a182 := Tryz.isAgg461
  z182 := Tryz.sizeOf461
  v182 := Tryz.zeroValue461
  t183 := Tryz.underlying462
  a183 := Tryz.isAgg462
  z183 := Tryz.sizeOf462
  v183 := Tryz.zeroValue462
  t218 := Tryz.underlying481
  a218 := Tryz.isAgg481
  z218 := Tryz.sizeOf481
  v218 := Tryz.zeroValue481
  t222 := Tryz.underlying484
  a222 := Tryz.isAgg484
  z222 := Tryz.sizeOf484
  v222 := Tryz.zeroValue484
  t228 := Tryz.underlying495
  a228 := Tryz.isAgg495
  z228 := Tryz.sizeOf495
  v228 := Tryz.zeroValue495
  t229 := Tryz.underlying73
  a229 := Tryz.isAgg73
  z229 := Tryz.sizeOf73
  v229 := Tryz.zeroValue73
}
end Go.Proofs

namespace Go.Proofs.YtibofakbhgmhiabGreatDoor

/-- is the task done? -/
def dnOf (M R : Nat) (bk : Bk) (p t : Nat) : Bool := if p = bk.ph then (match bk.ts[t]? with | some x => x.done | none => false) else decide (1 ≤ p ∧ p < bk.ph ∧ t < nOf M R p)

def pair (a : At) : Nat × Nat := (a.id, a.hd)

/-- the table's book and the statement's -/
structure Rel (cf : Cf) (M R : Nat) (bk : Bk) (l : List Gr) (dn : Nat → Nat → Bool) : Prop where
  gs : l.length = bk.gs
  ph : 1 ≤ bk.ph ∧ bk.ph ≤ 3
  len : bk.ph < 3 → bk.ts.length = nOf M R bk.ph
  nil : bk.ph = 3 → bk.ts = []
  hd : ∀ g ∈ l, g.hd ≤ bk.now
  rng : ∀ g ∈ l, (1 ≤ g.ph ∧ g.ph ≤ bk.ph ∧ g.ph ≤ 2) ∧ g.tk < nOf M R g.ph
  dn : ∀ p t, p < 3 → t < 16 → dn p t = dnOf M R bk p t
  live : ∀ k (hk : k < bk.ts.length), bk.ts[k].live.map pair = sel (Gr.cntAt cf.lease bk.now bk.ph k) 0 l
  only : ∀ g ∈ l, g.cnt cf.lease bk.now = true → g.ph = bk.ph
  gr : ∀ k (hk : k < bk.ts.length), bk.ts[k].gr = l.countP (Gr.at bk.ph k)
  dl : ∀ k (hk : k < bk.ts.length), bk.ts[k].done = true → bk.ts[k].live = []
  idle : bk.fl = false → ∀ k (hk : k < bk.ts.length), bk.ts[k].idle = true → (bk.ts[k].gr : Int) < cf.att
  lost : bk.fl = true → ∃ k, ∃ hk : k < bk.ts.length, bk.ts[k].idle = true ∧ cf.att ≤ (bk.ts[k].gr : Int)
  some : bk.ph < 3 → ∃ k, ∃ hk : k < bk.ts.length, bk.ts[k].done = false

theorem lt16 {M R p : Nat} (hM : M ≤ 16) (hR : R ≤ 16) : nOf M R p ≤ 16 := by unfold nOf; split <;> omega

theorem dnOf_set {M R : Nat} {bk : Bk} {k : Nat} {t : Tk} (hk : k < bk.ts.length) (h : t.done = bk.ts[k].done) (gs now : Nat) (fl : Bool) (p i : Nat) : dnOf M R ⟨bk.ph, bk.ts.set k t, gs, now, fl⟩ p i = dnOf M R bk p i := by
  unfold dnOf
  by_cases e : p = bk.ph
  · simp only [e, if_true]
    by_cases ek : k = i
    · subst ek
      simp [hk, h]
    · simp [List.getElem?_set_ne ek]
  · simp [e]

/-- a task is written: what stays -/
theorem Rel.put0 {cf : Cf} {M R : Nat} {bk : Bk} {l l' : List Gr} {dn dn' : Nat → Nat → Bool} (h : Rel cf M R bk l dn) (k : Nat) (hk : k < bk.ts.length) (t : Tk) (gs : Nat) (fl : Bool)
    (hdn : ∀ p i, p < 3 → i < 16 → dn' p i = dnOf M R ⟨bk.ph, bk.ts.set k t, gs, bk.now, fl⟩ p i) (hsome : ∃ j, ∃ hj : j < (bk.ts.set k t).length, (bk.ts.set k t)[j].done = false)
    (hgs : l'.length = gs) (hhd : ∀ g ∈ l', g.hd ≤ bk.now) (hrng : ∀ g ∈ l', (1 ≤ g.ph ∧ g.ph ≤ bk.ph ∧ g.ph ≤ 2) ∧ g.tk < nOf M R g.ph)
    (hlive : t.live.map pair = sel (Gr.cntAt cf.lease bk.now bk.ph k) 0 l') (hother : ∀ j, j ≠ k → sel (Gr.cntAt cf.lease bk.now bk.ph j) 0 l' = sel (Gr.cntAt cf.lease bk.now bk.ph j) 0 l)
    (honly : ∀ g ∈ l', g.cnt cf.lease bk.now = true → g.ph = bk.ph)
    (hgr : t.gr = l'.countP (Gr.at bk.ph k)) (hgro : ∀ j, j ≠ k → l'.countP (Gr.at bk.ph j) = l.countP (Gr.at bk.ph j))
    (hdl : t.done = true → t.live = []) (hidle : fl = false → bk.fl = false ∧ (t.idle = true → (t.gr : Int) < cf.att))
    (hlost : fl = true → (bk.fl = true ∧ (bk.ts[k].idle = true → t.idle = true ∧ t.gr = bk.ts[k].gr)) ∨ (t.idle = true ∧ cf.att ≤ (t.gr : Int))) : Rel cf M R ⟨bk.ph, bk.ts.set k t, gs, bk.now, fl⟩ l' dn' := by
  have L : ∀ j (hj : j < (bk.ts.set k t).length), (k = j ∧ (bk.ts.set k t)[j] = t) ∨ (j ≠ k ∧ ∃ h' : j < bk.ts.length, (bk.ts.set k t)[j] = bk.ts[j]) := by
    intro j hj
    by_cases e : k = j
    · subst e; exact .inl ⟨rfl, by simp⟩
    · exact .inr ⟨fun e' => e e'.symm, by simpa using hj, by simp [List.getElem_set_ne e]⟩
  refine ⟨hgs, h.ph, fun hp => by simpa using h.len hp, fun hp => ?_, hhd, hrng, hdn, fun j hj => ?_, honly, fun j hj => ?_, fun j hj hd => ?_, fun hf j hj hi => ?_, fun hf => ?_, fun _ => hsome⟩
  · have := h.nil hp
    rw [this] at hk; cases hk
  · simp only at hj ⊢
    rcases L j hj with ⟨rfl, e⟩ | ⟨hne, h', e⟩
    · rw [e]; exact hlive
    · rw [e, hother j hne]; exact h.live j h'
  · simp only at hj ⊢
    rcases L j hj with ⟨rfl, e⟩ | ⟨hne, h', e⟩
    · rw [e]; exact hgr
    · rw [e, hgro j hne]; exact h.gr j h'
  · simp only at hj hd ⊢
    rcases L j hj with ⟨rfl, e⟩ | ⟨hne, h', e⟩
    · rw [e] at hd ⊢; exact hdl hd
    · rw [e] at hd ⊢; exact h.dl j h' hd
  · simp only at hj hi hf ⊢
    obtain ⟨h1, h2⟩ := hidle hf
    rcases L j hj with ⟨rfl, e⟩ | ⟨hne, h', e⟩
    · rw [e] at hi ⊢; exact h2 hi
    · rw [e] at hi ⊢; exact h.idle h1 j h' hi
  · simp only at hf ⊢
    rcases hlost hf with ⟨h1, h2⟩ | ⟨h1, h2⟩
    · obtain ⟨j, hj, h3, h4⟩ := h.lost h1
      refine ⟨j, by simpa using hj, ?_⟩
      rcases L j (by simpa using hj) with ⟨rfl, e⟩ | ⟨hne, h', e⟩
      · rw [e]; obtain ⟨h5, h6⟩ := h2 h3; exact ⟨h5, by rw [h6]; exact h4⟩
      · rw [e]; exact ⟨h3, h4⟩
    · exact ⟨k, by simpa using hk, by simp only [List.getElem_set_self]; exact ⟨h1, h2⟩⟩
/-- the same where it is as much done as it was -/
theorem Rel.put {cf : Cf} {M R : Nat} {bk : Bk} {l l' : List Gr} {dn : Nat → Nat → Bool} (h : Rel cf M R bk l dn) (k : Nat) (hk : k < bk.ts.length) (t : Tk) (ht : t.done = bk.ts[k].done) (gs : Nat) (fl : Bool)
    (hgs : l'.length = gs) (hhd : ∀ g ∈ l', g.hd ≤ bk.now) (hrng : ∀ g ∈ l', (1 ≤ g.ph ∧ g.ph ≤ bk.ph ∧ g.ph ≤ 2) ∧ g.tk < nOf M R g.ph)
    (hlive : t.live.map pair = sel (Gr.cntAt cf.lease bk.now bk.ph k) 0 l') (hother : ∀ j, j ≠ k → sel (Gr.cntAt cf.lease bk.now bk.ph j) 0 l' = sel (Gr.cntAt cf.lease bk.now bk.ph j) 0 l)
    (honly : ∀ g ∈ l', g.cnt cf.lease bk.now = true → g.ph = bk.ph)
    (hgr : t.gr = l'.countP (Gr.at bk.ph k)) (hgro : ∀ j, j ≠ k → l'.countP (Gr.at bk.ph j) = l.countP (Gr.at bk.ph j))
    (hdl : t.done = true → t.live = []) (hidle : fl = false → bk.fl = false ∧ (t.idle = true → (t.gr : Int) < cf.att))
    (hlost : fl = true → (bk.fl = true ∧ (bk.ts[k].idle = true → t.idle = true ∧ t.gr = bk.ts[k].gr)) ∨ (t.idle = true ∧ cf.att ≤ (t.gr : Int))) : Rel cf M R ⟨bk.ph, bk.ts.set k t, gs, bk.now, fl⟩ l' dn := by
  refine h.put0 k hk t gs fl (fun p i hp hi => by rw [dnOf_set hk ht]; exact h.dn p i hp hi) ?_ hgs hhd hrng hlive hother honly hgr hgro hdl hidle hlost
  have hph : bk.ph < 3 := by
    have := h.ph
    have h3 : bk.ph ≠ 3 := fun e => by have := h.nil e; rw [this] at hk; cases hk
    omega
  obtain ⟨j, hj, h1⟩ := h.some hph
  refine ⟨j, by simpa using hj, ?_⟩
  by_cases e : k = j
  · subst e; simp only [List.getElem_set_self, ht]; exact h1
  · simp only [List.getElem_set_ne e]; exact h1

/-- a grant -/
theorem Rel.grant {cf : Cf} {M R : Nat} {bk : Bk} {l : List Gr} {dn : Nat → Nat → Bool} (h : Rel cf M R bk l dn) (hls : 1 ≤ cf.lease) (k : Nat) (hk : k < bk.ts.length) (hp : bk.ph ≠ 3) (hnd : bk.ts[k].done = false) (hfl : bk.fl = false) (b : Bool) : Rel cf M R (bk.granted k bk.ts[k]) (l ++ [⟨bk.ph, k, b, false, bk.now⟩]) dn := by
  have hph := h.ph
  have hcnt : Gr.cnt cf.lease bk.now ⟨bk.ph, k, b, false, bk.now⟩ = true := by simp [Gr.cnt]; omega
  refine h.put (l' := l ++ [⟨bk.ph, k, b, false, bk.now⟩]) k hk (bk.ts[k].granted (bk.gs + 1) bk.now) rfl (bk.gs + 1) bk.fl (by simp [h.gs]) ?_ ?_ ?_ ?_ ?_ ?_ ?_ ?_ ?_ ?_
  · intro g hg
    rcases List.mem_append.1 hg with hg | hg
    · exact h.hd g hg
    · rw [List.mem_singleton] at hg; subst hg; exact Nat.le_refl _
  · intro g hg
    rcases List.mem_append.1 hg with hg | hg
    · exact h.rng g hg
    · rw [List.mem_singleton] at hg; subst hg
      exact ⟨⟨hph.1, Nat.le_refl _, by simp; omega⟩, by rw [← h.len (by omega)]; exact hk⟩
  · rw [sel_append]
    have : Gr.cntAt cf.lease bk.now bk.ph k ⟨bk.ph, k, b, false, bk.now⟩ = true := by simp [Gr.cntAt, Gr.at, hcnt]
    rw [this]
    simp [Tk.granted, h.live k hk, pair, h.gs]
  · intro j hj
    rw [sel_append]
    have : Gr.cntAt cf.lease bk.now bk.ph j ⟨bk.ph, k, b, false, bk.now⟩ = false := by simp [Gr.cntAt, Gr.at]; intro e; exact absurd e.symm hj
    rw [this]; simp
  · intro g hg hc
    rcases List.mem_append.1 hg with hg | hg
    · exact h.only g hg hc
    · rw [List.mem_singleton] at hg; subst hg; rfl
  · rw [List.countP_append, ← h.gr k hk]
    simp [Tk.granted, Gr.at]
  · intro j hj
    rw [List.countP_append]
    have : Gr.at bk.ph j ⟨bk.ph, k, b, false, bk.now⟩ = false := by simp [Gr.at]; intro e; exact absurd e.symm hj
    simp [this]
  · intro hd
    simp [Tk.granted, hnd] at hd
  · intro _
    exact ⟨hfl, fun hi => by simp [Tk.granted, Tk.idle] at hi⟩
  · intro e; rw [hfl] at e; cases e

theorem cnt_set_other {lease : Int} {now p j : Nat} {l : List Gr} {i : Nat} {g : Gr} (hi : i < l.length) (hg : g.at p j = false) (ho : (l[i]).at p j = false) : sel (Gr.cntAt lease now p j) 0 (l.set i g) = sel (Gr.cntAt lease now p j) 0 l := by
  rw [sel_beat (Gr.cntAt lease now p j) g l 0 i hi (by simp [Gr.cntAt, hg, ho])]
  conv => rhs; rw [← List.map_id (sel (Gr.cntAt lease now p j) 0 l)]
  apply List.map_congr_left
  intro x hx
  obtain ⟨m, hm, e, hp⟩ := (sel_mem _ x l 0).1 hx
  rw [if_neg]
  · rfl
  · intro e2
    rw [e] at e2
    have : m = i := by simp at e2; exact e2
    subst this
    simp [Gr.cntAt, ho] at hp
theorem count_set {p j : Nat} {l : List Gr} {i : Nat} {g : Gr} (hi : i < l.length) (h : g.at p j = (l[i]).at p j) : (l.set i g).countP (Gr.at p j) = l.countP (Gr.at p j) := by
  induction l generalizing i with
  | nil => rfl
  | cons a l ih =>
    rcases i with _ | i
    · simp only [List.getElem_cons_zero] at h
      simp [List.countP_cons, h]
    · simp only [List.set_cons_succ, List.countP_cons]
      rw [ih (by simpa using hi) (by simpa using h)]

/-- which of the book's the table's attempt is -/
theorem Rel.found {cf : Cf} {M R : Nat} {bk : Bk} {l : List Gr} {dn : Nat → Nat → Bool} (h : Rel cf M R bk l dn) {id : Int} {k i : Nat} (hh : bk.has id k i) : ∃ j, ∃ hj : j < l.length, id = (j : Int) + 1 ∧ (l[j]).ph = bk.ph ∧ (l[j]).tk = k ∧ (l[j]).cnt cf.lease bk.now = true := by
  obtain ⟨hk, hi, e⟩ := hh
  have hm : pair bk.ts[k].live[i] ∈ bk.ts[k].live.map pair := List.mem_map_of_mem (List.getElem_mem hi)
  rw [h.live k hk] at hm
  obtain ⟨j, hj, e2, hp⟩ := (sel_mem _ _ l 0).1 hm
  have e3 : bk.ts[k].live[i].id = 0 + j + 1 := congrArg Prod.fst e2
  simp only [Gr.cntAt, Gr.at, Bool.and_eq_true, beq_iff_eq] at hp
  exact ⟨j, hj, by omega, hp.1.1, hp.1.2, hp.2⟩
theorem Rel.find {cf : Cf} {M R : Nat} {bk : Bk} {l : List Gr} {dn : Nat → Nat → Bool} (h : Rel cf M R bk l dn) {j : Nat} (hj : j < l.length) (hc : (l[j]).cnt cf.lease bk.now = true) : ∃ k i, bk.has ((j : Int) + 1) k i := by
  have hp := h.only _ (List.getElem_mem hj) hc
  have hr := h.rng _ (List.getElem_mem hj)
  have hph := h.ph
  have hk : (l[j]).tk < bk.ts.length := by rw [h.len (by omega), ← hp]; exact hr.2
  have hm : (0 + j + 1, (l[j]).hd) ∈ sel (Gr.cntAt cf.lease bk.now bk.ph (l[j]).tk) 0 l := (sel_mem _ _ l 0).2 ⟨j, hj, rfl, by simp [Gr.cntAt, Gr.at, hp, hc]⟩
  rw [← h.live _ hk] at hm
  obtain ⟨a, ha, e⟩ := List.mem_map.1 hm
  obtain ⟨i, hi, e2⟩ := List.getElem_of_mem ha
  refine ⟨_, i, hk, hi, ?_⟩
  rw [e2]
  have : a.id = 0 + j + 1 := congrArg Prod.fst e
  omega
theorem Rel.ids {cf : Cf} {M R : Nat} {bk : Bk} {l : List Gr} {dn : Nat → Nat → Bool} (h : Rel cf M R bk l dn) (k : Nat) (hk : k < bk.ts.length) : bk.ts[k].live.Pairwise (fun a b => a.id < b.id) := by
  have := sel_sorted (Gr.cntAt cf.lease bk.now bk.ph k) l 0
  rw [← h.live k hk] at this
  exact (List.pairwise_map (f := pair) (R := fun x y => x.1 < y.1)).1 this
theorem set_map_pair {f x g h n : Nat} : ∀ (ls : List At) (i : Nat) (hi : i < ls.length), ls.Pairwise (fun a b => a.id < b.id) → (ls[i]).id = x → (ls.set i ⟨x, f, g, n⟩).map pair = (ls.map pair).map (fun y => if y.1 = x then (y.1, n) else y)
  | [], i, hi, _, _ => absurd hi (Nat.not_lt_zero _)
  | a :: ls, 0, _, hp, e => by
    simp only [List.getElem_cons_zero] at e
    have hno : (ls.map pair).map (fun y => if y.1 = x then (y.1, n) else y) = ls.map pair := by
      conv => rhs; rw [← List.map_id (ls.map pair)]
      apply List.map_congr_left
      intro y hy
      obtain ⟨b, hb, rfl⟩ := List.mem_map.1 hy
      have := (List.pairwise_cons.1 hp).1 b hb
      rw [if_neg (by simp [pair]; omega)]; rfl
    simp only [List.set_cons_zero, List.map_cons, hno]
    simp [pair, e]
  | a :: ls, i + 1, hi, hp, e => by
    have hp2 := List.pairwise_cons.1 hp
    have ih := set_map_pair (f := f) (x := x) (g := g) (h := h) (n := n) ls i (by simpa using hi) hp2.2 (by simpa using e)
    have hlt := hp2.1 _ (List.getElem_mem (by simpa using hi : i < ls.length))
    simp only [List.getElem_cons_succ] at e
    simp only [List.set_cons_succ, List.map_cons, ih]
    rw [if_neg (by simp [pair]; omega)]

/-- a heartbeat -/
theorem Rel.beat {cf : Cf} {M R : Nat} {bk : Bk} {l : List Gr} {dn : Nat → Nat → Bool} (h : Rel cf M R bk l dn) (hls : 1 ≤ cf.lease) {k i f : Nat} (hk : k < bk.ts.length) (hi : i < bk.ts[k].live.length) {j : Nat} (hj : j < l.length) (he : bk.ts[k].live[i].id = j + 1) : Rel cf M R (bk.beat k i f bk.ts[k] bk.ts[k].live[i]) (l.set j (l[j].heard bk.now)) dn := by
  obtain ⟨j', hj', e1, e2, e3, e4⟩ := h.found (id := bk.ts[k].live[i].id) ⟨hk, hi, rfl⟩
  have : j' = j := by omega
  subst this
  have hov : (l[j']).ov = false := by simp [Gr.cnt] at e4; exact e4.1
  have hc : Gr.cnt cf.lease bk.now (l[j'].heard bk.now) = true := by simp [Gr.cnt, Gr.heard, hov]; omega
  refine h.put (l' := l.set j' (l[j'].heard bk.now)) k hk ⟨bk.ts[k].done, bk.ts[k].gr, bk.ts[k].live.set i ⟨bk.ts[k].live[i].id, f, bk.ts[k].live[i].gr, bk.now⟩⟩ rfl bk.gs bk.fl (by simp [h.gs]) ?_ ?_ ?_ ?_ ?_ ?_ ?_ ?_ ?_ ?_
  · intro g hg
    rcases List.mem_or_eq_of_mem_set hg with hg | rfl
    · exact h.hd g hg
    · exact Nat.le_refl _
  · intro g hg
    rcases List.mem_or_eq_of_mem_set hg with hg | rfl
    · exact h.rng g hg
    · exact h.rng (l[j']) (List.getElem_mem _)
  · rw [sel_beat _ _ l 0 j' hj' (by simp only [Gr.cntAt, hc, e4]; rfl), ← h.live k hk]
    have := set_map_pair (f := f) (x := bk.ts[k].live[i].id) (g := bk.ts[k].live[i].gr) (h := 0) (n := bk.now) bk.ts[k].live i hi (h.ids k hk) rfl
    simp only
    rw [this, he, Nat.zero_add]
    rfl
  · intro m hm
    refine cnt_set_other hj' ?_ ?_
    · simp [Gr.at, Gr.heard, e2, e3]; exact fun e => hm e.symm
    · simp [Gr.at, e2, e3]; exact fun e => hm e.symm
  · intro g hg hcc
    rcases List.mem_or_eq_of_mem_set hg with hg | rfl
    · exact h.only g hg hcc
    · exact e2
  · rw [count_set (g := l[j'].heard bk.now) hj' rfl, ← h.gr k hk]
  · intro m hm
    exact count_set (g := l[j'].heard bk.now) hj' rfl
  · intro hd
    have := h.dl k hk hd
    rw [this] at hi; cases hi
  · intro hf
    refine ⟨hf, fun hid => ?_⟩
    simp [Tk.idle] at hid
    rw [hid.2] at hi; cases hi
  · intro hf
    refine .inl ⟨hf, fun hid => ?_⟩
    simp [Tk.idle] at hid
    rw [hid.2] at hi; cases hi

/-- a task that has an attempt is not idle and not done -/
theorem Rel.busy {cf : Cf} {M R : Nat} {bk : Bk} {l : List Gr} {dn : Nat → Nat → Bool} (h : Rel cf M R bk l dn) {k i : Nat} (hk : k < bk.ts.length) (hi : i < bk.ts[k].live.length) : bk.ts[k].idle = false ∧ bk.ts[k].done = false := by
  constructor
  · simp [Tk.idle]
    intro _ e
    rw [e] at hi; cases hi
  · cases hd : bk.ts[k].done with
    | false => rfl
    | true => have := h.dl k hk hd; rw [this] at hi; cases hi

/-- a failure -/
theorem Rel.fail {cf : Cf} {M R : Nat} {bk : Bk} {l : List Gr} {dn : Nat → Nat → Bool} (h : Rel cf M R bk l dn) {k i : Nat} (hk : k < bk.ts.length) (hi : i < bk.ts[k].live.length) {j : Nat} (hj : j < l.length) (he : bk.ts[k].live[i].id = j + 1) (p : At → Bool) (hp : ∀ x, p x = (x.id == j + 1)) : Rel cf M R (bk.dropped cf k bk.ts[k] p) (l.set j l[j].gone) dn := by
  obtain ⟨j', hj', e1, e2, e3, e4⟩ := h.found (id := bk.ts[k].live[i].id) ⟨hk, hi, rfl⟩
  have : j' = j := by omega
  subst this
  obtain ⟨b1, b2⟩ := h.busy hk hi
  have hgn : ∀ lease now, Gr.cnt lease now (l[j'].gone) = false := fun _ _ => by simp [Gr.cnt, Gr.gone]
  refine h.put (l' := l.set j' l[j'].gone) k hk ⟨bk.ts[k].done, bk.ts[k].gr, bk.ts[k].live.filter fun x => !p x⟩ rfl bk.gs _ (by simp [h.gs]) ?_ ?_ ?_ ?_ ?_ ?_ ?_ ?_ ?_ ?_
  · intro g hg
    rcases List.mem_or_eq_of_mem_set hg with hg | rfl
    · exact h.hd g hg
    · exact h.hd (l[j']) (List.getElem_mem _)
  · intro g hg
    rcases List.mem_or_eq_of_mem_set hg with hg | rfl
    · exact h.rng g hg
    · exact h.rng (l[j']) (List.getElem_mem _)
  · rw [sel_over _ _ (by simp [Gr.cntAt, hgn]) l 0 j' hj', ← h.live k hk, List.filter_map]
    congr 1
    apply List.filter_congr
    intro x _
    simp [hp, pair]
  · intro m hm
    refine cnt_set_other hj' ?_ ?_
    · simp [Gr.at, Gr.gone, e2, e3]; exact fun e => hm e.symm
    · simp [Gr.at, e2, e3]; exact fun e => hm e.symm
  · intro g hg hcc
    rcases List.mem_or_eq_of_mem_set hg with hg | rfl
    · exact h.only g hg hcc
    · exact e2
  · rw [count_set (g := l[j'].gone) hj' rfl, ← h.gr k hk]
  · intro m hm
    exact count_set (g := l[j'].gone) hj' rfl
  · intro hd; rw [b2] at hd; cases hd
  · intro hf
    simp only [Bool.or_eq_false_iff] at hf
    refine ⟨hf.1, fun hid => ?_⟩
    have h0 : (bk.ts[k].live.filter fun x => !p x).length = 0 := by simp only [Tk.idle, Bool.and_eq_true, beq_iff_eq] at hid; exact hid.2
    have h1 := hf.2
    have h2 : decide (0 < bk.ts[k].live.length) = true := by simp; omega
    rw [h0, h2] at h1
    simp at h1
    exact h1
  · intro hf
    simp only [Bool.or_eq_true] at hf
    rcases hf with hf | hf
    · exact .inl ⟨hf, fun e => by rw [b1] at e; cases e⟩
    · simp only [Bool.and_eq_true, beq_iff_eq, decide_eq_true_eq] at hf
      exact .inr ⟨by simp only [Tk.idle, b2, hf.2.1]; rfl, hf.2.2⟩

/-! ### a commit -/
def overAt (p k : Nat) (g : Gr) : Gr := if g.at p k then g.gone else g
theorem overAt_hd (p k : Nat) (g : Gr) : (overAt p k g).hd = g.hd := by unfold overAt; split <;> rfl
theorem overAt_ph (p k : Nat) (g : Gr) : (overAt p k g).ph = g.ph := by unfold overAt; split <;> rfl
theorem overAt_tk (p k : Nat) (g : Gr) : (overAt p k g).tk = g.tk := by unfold overAt; split <;> rfl
theorem overAt_at (p k : Nat) (g : Gr) (p' k' : Nat) : (overAt p k g).at p' k' = g.at p' k' := by simp [Gr.at, overAt_ph, overAt_tk]
theorem overAt_cnt (p k : Nat) (g : Gr) (lease : Int) (now : Nat) : (overAt p k g).cnt lease now = (g.cnt lease now && !g.at p k) := by
  unfold overAt
  by_cases h : g.at p k = true
  · simp [h, Gr.cnt, Gr.gone]
  · simp [h]
theorem count_map {f : Gr → Gr} {P : Gr → Bool} (h : ∀ g, P (f g) = P g) (l : List Gr) : (l.map f).countP P = l.countP P := by
  rw [List.countP_map]
  apply List.countP_congr
  intro g _
  simp [h]
def setDn (dn : Nat → Nat → Bool) (p k : Nat) : Nat → Nat → Bool := fun p' k' => if p' = p ∧ k' = k then true else dn p' k'

theorem Rel.commit {cf : Cf} {M R : Nat} {bk : Bk} {l : List Gr} {dn : Nat → Nat → Bool} (h : Rel cf M R bk l dn) (hR : 1 ≤ R) (hat : 1 ≤ cf.att) {k i : Nat} (hk : k < bk.ts.length) (hi : i < bk.ts[k].live.length) : Rel cf M R ((bk.doneAt k bk.ts[k]).ended R) (l.map (overAt bk.ph k)) (setDn dn bk.ph k) := by
  obtain ⟨b1, b2⟩ := h.busy hk hi
  have hph := h.ph
  have hp3 : bk.ph < 3 := by
    have h3 : bk.ph ≠ 3 := fun e => by have := h.nil e; rw [this] at hk; cases hk
    omega
  have mem : ∀ g ∈ l.map (overAt bk.ph k), ∃ g0 ∈ l, g = overAt bk.ph k g0 := fun g hg => by
    obtain ⟨g0, h1, h2⟩ := List.mem_map.1 hg
    exact ⟨g0, h1, h2.symm⟩
  have hhd : ∀ g ∈ l.map (overAt bk.ph k), g.hd ≤ bk.now := fun g hg => by
    obtain ⟨g0, h1, rfl⟩ := mem g hg
    rw [overAt_hd]; exact h.hd g0 h1
  have hrng : ∀ g ∈ l.map (overAt bk.ph k), (1 ≤ g.ph ∧ g.ph ≤ bk.ph ∧ g.ph ≤ 2) ∧ g.tk < nOf M R g.ph := fun g hg => by
    obtain ⟨g0, h1, rfl⟩ := mem g hg
    rw [overAt_ph, overAt_tk]; exact h.rng g0 h1
  have honly : ∀ g ∈ l.map (overAt bk.ph k), g.cnt cf.lease bk.now = true → g.ph = bk.ph := fun g hg hc => by
    obtain ⟨g0, h1, rfl⟩ := mem g hg
    rw [overAt_cnt] at hc
    rw [overAt_ph]
    simp only [Bool.and_eq_true] at hc
    exact h.only g0 h1 hc.1
  have hdn : ∀ p i, p < 3 → i < 16 → setDn dn bk.ph k p i = dnOf M R (bk.doneAt k bk.ts[k]) p i := by
    intro p i hp hi
    unfold setDn
    by_cases e : p = bk.ph ∧ i = k
    · rw [if_pos e]
      obtain ⟨rfl, rfl⟩ := e
      simp [dnOf, Bk.doneAt, hk]
    · rw [if_neg e, h.dn p i hp hi]
      unfold dnOf Bk.doneAt
      by_cases e2 : p = bk.ph
      · have : k ≠ i := fun e3 => e ⟨e2, e3.symm⟩
        simp [e2, List.getElem?_set_ne this]
      · simp [e2]
  by_cases hany : (bk.doneAt k bk.ts[k]).ts.any Tk.nd = true
  · rw [Bk.ended, if_pos hany]
    refine h.put0 (l' := l.map (overAt bk.ph k)) k hk ⟨true, bk.ts[k].gr, []⟩ bk.gs bk.fl hdn ?_ (by simp [h.gs]) hhd hrng ?_ ?_ honly ?_ ?_ ?_ ?_ ?_
    · obtain ⟨t, ht, hn⟩ := List.any_eq_true.1 hany
      obtain ⟨j, hj, e⟩ := List.getElem_of_mem ht
      refine ⟨j, hj, ?_⟩
      have : (bk.ts.set k ⟨true, bk.ts[k].gr, []⟩)[j]'hj = t := e
      rw [this]
      simpa [Tk.nd] using hn
    · rw [sel_nil]
      · rfl
      · intro g hg
        obtain ⟨g0, h1, rfl⟩ := mem g hg
        simp only [Gr.cntAt, overAt_at, overAt_cnt]
        cases g0.at bk.ph k <;> simp
    · intro j hj
      rw [sel_map (Gr.cntAt cf.lease bk.now bk.ph j) _ _ (fun _ => true)]
      · exact List.filter_eq_self.2 (fun _ _ => rfl)
      · intro g _
        refine ⟨?_, overAt_hd _ _ _⟩
        simp only [Gr.cntAt, overAt_at, overAt_cnt, Bool.and_true]
        by_cases e : g.at bk.ph j = true
        · have : g.at bk.ph k = false := by
            simp only [Gr.at, Bool.and_eq_true, beq_iff_eq] at e
            simp [Gr.at, e.1, e.2, hj]
          simp [this]
        · simp [e]
    · rw [count_map (fun g => overAt_at _ _ _ _ _)]; exact h.gr k hk
    · intro j _
      exact count_map (fun g => overAt_at _ _ _ _ _) l
    · intro _; rfl
    · intro hf; exact ⟨hf, fun e => by simp [Tk.idle] at e⟩
    · intro hf; exact .inl ⟨hf, fun e => by rw [b1] at e; cases e⟩
  · have hall : ∀ j (hj : j < bk.ts.length), j ≠ k → bk.ts[j].done = true := by
      intro j hj hne
      cases hd : bk.ts[j].done with
      | true => rfl
      | false =>
        refine absurd (List.any_eq_true.2 ⟨bk.ts[j], ?_, by simp [Tk.nd, hd]⟩) hany
        have : bk.ts[j] = (bk.ts.set k ⟨true, bk.ts[k].gr, []⟩)[j]'(by simpa using hj) := by rw [List.getElem_set_ne (fun e => hne e.symm)]
        rw [this]; exact List.getElem_mem _
    have hfl : bk.fl = false := by
      cases hf : bk.fl with
      | false => rfl
      | true =>
        obtain ⟨j, hj, h1, _⟩ := h.lost hf
        by_cases e : j = k
        · subst e; rw [b1] at h1; cases h1
        · have := hall j hj e
          simp [Tk.idle, this] at h1
    have hno : ∀ g ∈ l.map (overAt bk.ph k), g.cnt cf.lease bk.now = false := by
      intro g hg
      cases hc : g.cnt cf.lease bk.now with
      | false => rfl
      | true =>
        obtain ⟨g0, h1, rfl⟩ := mem g hg
        rw [overAt_cnt] at hc
        simp only [Bool.and_eq_true] at hc
        obtain ⟨j, hj, rfl⟩ := List.getElem_of_mem h1
        have e1 := h.only _ (List.getElem_mem hj) hc.1
        have e2 := (h.rng _ (List.getElem_mem hj)).2
        rw [e1, ← h.len hp3] at e2
        have hne : (l[j]).tk ≠ k := fun e => by simp [Gr.at, e1, e] at hc
        have hl := h.live _ e2
        rw [h.dl _ e2 (hall _ e2 hne)] at hl
        have hm : (0 + j + 1, (l[j]).hd) ∈ sel (Gr.cntAt cf.lease bk.now bk.ph (l[j]).tk) 0 l := (sel_mem _ _ l 0).2 ⟨j, hj, rfl, by simp [Gr.cntAt, Gr.at, e1, hc.1]⟩
        rw [← hl] at hm; cases hm
    have hall2 : ∀ i, dnOf M R (bk.doneAt k bk.ts[k]) bk.ph i = decide (i < nOf M R bk.ph) := by
      intro i
      rw [← h.len hp3]
      simp only [dnOf, Bk.doneAt, if_true]
      by_cases hi2 : i < bk.ts.length
      · by_cases e : k = i
        · subst e; simp [hk]
        · rw [List.getElem?_set_ne e, List.getElem?_eq_getElem hi2]
          simp [hi2, hall i hi2 (fun e' => e e'.symm)]
      · rw [List.getElem?_eq_none (by simpa using hi2)]
        simp [hi2]
    rw [Bk.ended, if_neg hany]
    by_cases h1 : bk.ph = 1
    · rw [if_pos (by simpa [Bk.doneAt] using h1)]
      refine ⟨by simp [h.gs, Bk.doneAt], by simp, fun _ => by simp [nOf], fun e => by simp at e, hhd, fun g hg => ?_, fun p i hp hi => ?_, fun j hj => ?_, fun g hg hc => ?_, fun j hj => ?_, fun j hj hd => ?_, fun _ j hj _ => ?_, fun hf => ?_, fun _ => ?_⟩
      · have := hrng g hg
        exact ⟨⟨this.1.1, by simp; omega, this.1.2.2⟩, this.2⟩
      · rw [hdn p i hp hi]
        by_cases e : p = 1
        · have := hall2 i
          rw [h1] at this
          subst e
          rw [this]
          simp [dnOf]
        · have e1 : p ≠ (bk.doneAt k bk.ts[k]).ph := by simp [Bk.doneAt, h1, e]
          unfold dnOf
          rw [if_neg e1]
          by_cases e2 : p = 2
          · subst e2
            simp only [if_true, Bk.doneAt, h1]
            by_cases hi2 : i < R
            · simp [hi2, fresh]
            · simp [hi2]
          · simp only [if_neg e2, Bk.doneAt, h1]
            have : p = 0 := by omega
            simp [this]
      · simp only [List.getElem_replicate, fresh]
        rw [sel_nil]
        · rfl
        · intro g hg
          have := hno g hg
          simp only [Bk.doneAt] at this ⊢
          simp [Gr.cntAt, this]
      · have := hno g hg
        simp only [Bk.doneAt] at hc
        rw [this] at hc; cases hc
      · simp only [List.getElem_replicate, fresh]
        rw [eq_comm, List.countP_eq_zero]
        intro g hg
        have := hrng g hg
        simp [Gr.at]; omega
      · simp [fresh] at hd
      · simp only [List.getElem_replicate, fresh]
        simp; omega
      · simp only [Bk.doneAt] at hf
        rw [hfl] at hf; cases hf
      · exact ⟨0, by simp; omega, by simp [fresh]⟩
    · rw [if_neg (by simpa [Bk.doneAt] using h1)]
      have h2 : bk.ph = 2 := by omega
      refine ⟨by simp [h.gs, Bk.doneAt], by simp, fun e => by simp at e, fun _ => rfl, hhd, fun g hg => ?_, fun p i hp hi => ?_, fun j hj => by simp at hj, fun g hg hc => ?_, fun j hj => by simp at hj, fun j hj => by simp at hj, fun _ j hj => by simp at hj, fun hf => ?_, fun e => by simp at e⟩
      · have := hrng g hg
        exact ⟨⟨this.1.1, by simp; omega, this.1.2.2⟩, this.2⟩
      · rw [hdn p i hp hi]
        by_cases e : p = 2
        · have := hall2 i
          rw [h2] at this
          subst e
          rw [this]
          simp [dnOf]
        · have e1 : p ≠ (bk.doneAt k bk.ts[k]).ph := by simp [Bk.doneAt, h2, e]
          unfold dnOf
          rw [if_neg e1, if_neg (by simp; omega)]
          simp only [Bk.doneAt, h2]
          by_cases e0 : p = 0
          · simp [e0]
          · have : p = 1 := by omega
            simp [this]
      · have := hno g hg
        simp only [Bk.doneAt] at hc
        rw [this] at hc; cases hc
      · simp only [Bk.doneAt] at hf
        rw [hfl] at hf; cases hf

/-! ### the time goes on -/
def tickT (lease : Int) (now : Nat) (t : Tk) : Tk := ⟨t.done, t.gr, t.live.filter fun x => !late lease now x⟩
def tickC (cf : Cf) (now : Nat) (t : Tk) : Bool := decide (0 < t.live.length) && ((t.live.filter fun x => !late cf.lease now x).length == 0 && decide (cf.att ≤ (t.gr : Int)))
theorem set_take (T : Tk → Tk) (l : List Tk) (j : Nat) (hj : j < l.length) : ((l.take j).map T ++ l.drop j).set j (T l[j]) = (l.take (j + 1)).map T ++ l.drop (j + 1) := by
  have hl : ((l.take j).map T).length = j := by simp; omega
  rw [List.set_append_right _ _ (by omega), hl, Nat.sub_self, List.drop_eq_getElem_cons hj, List.set_cons_zero, List.take_succ_eq_append_getElem hj, List.map_append, List.append_assoc]
  rfl
theorem ticked_spec (cf : Cf) (bk : Bk) : ∀ j, j ≤ bk.ts.length → ticked cf bk j = ⟨bk.ph, (bk.ts.take j).map (tickT cf.lease (bk.now + 1)) ++ bk.ts.drop j, bk.gs, bk.now + 1, bk.fl || (bk.ts.take j).any (tickC cf (bk.now + 1))⟩
  | 0, _ => by simp [ticked]
  | j + 1, hj => by
    have ih := ticked_spec cf bk j (by omega)
    have hjl : j < bk.ts.length := by omega
    have hl : ((bk.ts.take j).map (tickT cf.lease (bk.now + 1))).length = j := by simp; omega
    have e : (ticked cf bk j).ts[j]? = some bk.ts[j] := by
      rw [ih]
      simp only
      rw [List.getElem?_append_right (by omega), hl, Nat.sub_self, List.drop_eq_getElem_cons hjl]
      rfl
    rw [ticked, e]
    simp only [Bk.dropped, ih]
    have e2 := set_take (tickT cf.lease (bk.now + 1)) bk.ts j hjl
    simp only [tickT] at e2
    rw [e2, List.take_succ_eq_append_getElem hjl, List.any_append]
    simp [tickC, Bool.or_assoc]
theorem ticked_all (cf : Cf) (bk : Bk) : ticked cf bk bk.ts.length = ⟨bk.ph, bk.ts.map (tickT cf.lease (bk.now + 1)), bk.gs, bk.now + 1, bk.fl || bk.ts.any (tickC cf (bk.now + 1))⟩ := by
  rw [ticked_spec cf bk _ (Nat.le_refl _)]
  simp

/-- one that counts no more is over -/
def overLate (lease : Int) (now : Nat) (g : Gr) : Gr := if g.cnt lease now then g else g.gone
theorem overLate_hd (lease : Int) (now : Nat) (g : Gr) : (overLate lease now g).hd = g.hd := by unfold overLate; split <;> rfl
theorem overLate_ph (lease : Int) (now : Nat) (g : Gr) : (overLate lease now g).ph = g.ph := by unfold overLate; split <;> rfl
theorem overLate_tk (lease : Int) (now : Nat) (g : Gr) : (overLate lease now g).tk = g.tk := by unfold overLate; split <;> rfl
theorem overLate_at (lease : Int) (now : Nat) (g : Gr) (p k : Nat) : (overLate lease now g).at p k = g.at p k := by simp [Gr.at, overLate_ph, overLate_tk]
theorem overLate_cnt (lease : Int) (now : Nat) (g : Gr) : (overLate lease (now + 1) g).cnt lease (now + 1) = (g.cnt lease now && decide ((((now + 1 : Nat) : Int)) - (g.hd : Int) ≤ lease)) := by
  unfold overLate
  have key : g.cnt lease (now + 1) = (g.cnt lease now && decide ((((now + 1 : Nat) : Int)) - (g.hd : Int) ≤ lease)) := by
    unfold Gr.cnt
    cases g.ov with
    | true => rfl
    | false =>
      simp
      omega
  rw [← key]
  by_cases h : g.cnt lease (now + 1) = true
  · rw [if_pos h]
  · rw [if_neg h]
    simp only [Bool.not_eq_true] at h
    rw [h]; rfl

theorem Rel.tick {cf : Cf} {M R : Nat} {bk : Bk} {l : List Gr} {dn : Nat → Nat → Bool} (h : Rel cf M R bk l dn) (hlt : ∀ x : At, x.hd ≤ bk.now → late cf.lease (bk.now + 1) x = decide (cf.lease < ((bk.now + 1 : Nat) : Int) - (x.hd : Int))) : Rel cf M R (ticked cf bk bk.ts.length) (l.map (overLate cf.lease (bk.now + 1))) dn := by
  rw [ticked_all]
  have mem : ∀ g ∈ l.map (overLate cf.lease (bk.now + 1)), ∃ g0 ∈ l, g = overLate cf.lease (bk.now + 1) g0 := fun g hg => by
    obtain ⟨g0, h1, h2⟩ := List.mem_map.1 hg
    exact ⟨g0, h1, h2.symm⟩
  refine ⟨by simp [h.gs], h.ph, fun hp => by simpa using h.len hp, fun hp => by simpa using h.nil hp, fun g hg => ?_, fun g hg => ?_, fun p i hp hi => ?_, fun j hj => ?_, fun g hg hc => ?_, fun j hj => ?_, fun j hj hd => ?_, fun hf j hj hi => ?_, fun hf => ?_, fun hp => ?_⟩
  · obtain ⟨g0, h1, rfl⟩ := mem g hg
    rw [overLate_hd]; have := h.hd g0 h1; simp; omega
  · obtain ⟨g0, h1, rfl⟩ := mem g hg
    rw [overLate_ph, overLate_tk]; exact h.rng g0 h1
  · rw [h.dn p i hp hi]
    unfold dnOf
    simp only
    split
    · rw [List.getElem?_map]
      cases bk.ts[i]? <;> rfl
    · rfl
  · have hj' : j < bk.ts.length := by simpa using hj
    simp only [List.getElem_map, tickT]
    rw [sel_map (Gr.cntAt cf.lease bk.now bk.ph j) _ _ (fun n => decide (((bk.now + 1 : Nat) : Int) - (n : Int) ≤ cf.lease)), ← h.live j hj', List.filter_map]
    · congr 1
      apply List.filter_congr
      intro x hx
      have hxn : x.hd ≤ bk.now := by
        have hm : pair x ∈ bk.ts[j].live.map pair := List.mem_map_of_mem hx
        rw [h.live j hj'] at hm
        obtain ⟨i, hi, e, _⟩ := (sel_mem _ _ l 0).1 hm
        have e2 : x.hd = (l[i]).hd := congrArg Prod.snd e
        rw [e2]; exact h.hd _ (List.getElem_mem hi)
      rw [hlt x hxn]
      show (!decide (cf.lease < ((bk.now + 1 : Nat) : Int) - (x.hd : Int))) = decide (((bk.now + 1 : Nat) : Int) - (x.hd : Int) ≤ cf.lease)
      by_cases e : cf.lease < ((bk.now + 1 : Nat) : Int) - (x.hd : Int)
      · rw [decide_eq_true e, decide_eq_false (by omega)]; rfl
      · rw [decide_eq_false e, decide_eq_true (by omega)]; rfl
    · intro g _
      refine ⟨?_, overLate_hd _ _ _⟩
      simp only [Gr.cntAt, overLate_at, overLate_cnt, Bool.and_assoc]
  · obtain ⟨g0, h1, rfl⟩ := mem g hg
    rw [overLate_ph]
    simp only [overLate_cnt, Bool.and_eq_true] at hc
    exact h.only g0 h1 hc.1
  · have hj' : j < bk.ts.length := by simpa using hj
    rw [count_map (fun g => overLate_at _ _ _ _ _)]
    simpa [tickT] using h.gr j hj'
  · have hj' : j < bk.ts.length := by simpa using hj
    simp only [List.getElem_map, tickT] at hd ⊢
    rw [h.dl j hj' hd]; rfl
  · have hj' : j < bk.ts.length := by simpa using hj
    simp only [Bool.or_eq_false_iff] at hf
    simp only [List.getElem_map] at hi ⊢
    by_cases hz : bk.ts[j].live.length = 0
    · refine h.idle hf.1 j hj' ?_
      simp only [tickT, Tk.idle, Bool.and_eq_true] at hi
      simp only [Tk.idle, Bool.and_eq_true]
      exact ⟨hi.1, by simp [hz]⟩
    · have h2 := List.any_eq_false.1 hf.2 _ (List.getElem_mem hj')
      simp only [tickT, Tk.idle, Bool.and_eq_true, beq_iff_eq] at hi
      simp only [tickC, hi.2] at h2
      have : 0 < bk.ts[j].live.length := by omega
      simp [this] at h2
      exact h2
  · simp only [Bool.or_eq_true] at hf
    rcases hf with hf | hf
    · obtain ⟨j, hj, h1, h2⟩ := h.lost hf
      refine ⟨j, by simpa using hj, ?_⟩
      simp only [List.getElem_map, tickT]
      simp only [Tk.idle, Bool.and_eq_true, beq_iff_eq] at h1 ⊢
      have : bk.ts[j].live = [] := List.eq_nil_of_length_eq_zero h1.2
      exact ⟨⟨h1.1, by simp [this]⟩, h2⟩
    · obtain ⟨t, ht, hc⟩ := List.any_eq_true.1 hf
      obtain ⟨j, hj, rfl⟩ := List.getElem_of_mem ht
      refine ⟨j, by simpa using hj, ?_⟩
      simp only [tickC, Bool.and_eq_true, decide_eq_true_eq, beq_iff_eq] at hc
      have hd : bk.ts[j].done = false := by
        cases hd : bk.ts[j].done with
        | false => rfl
        | true => have := h.dl j hj hd; rw [this] at hc; simp at hc
      simp only [List.getElem_map, tickT]
      exact ⟨by simp [Tk.idle, hd, hc.2.1], hc.2.2⟩
  · obtain ⟨j, hj, h1⟩ := h.some hp
    exact ⟨j, by simpa using hj, by simpa [tickT] using h1⟩

/-! ### what the statement asks of its book -/
theorem leftOf_pos {dn : Nat → Nat → Bool} {p n : Nat} (i : Nat) (hi : i < n) (h : dn p i = false) : 0 < leftOf dn p n :=
  List.countP_pos_iff.2 ⟨i, by simpa using hi, by simp [h]⟩
theorem leftOf_zero {dn : Nat → Nat → Bool} {p n : Nat} (h : ∀ i, i < n → dn p i = true) : leftOf dn p n = 0 :=
  List.countP_eq_zero.2 (fun i hi => by simp [h i (by simpa using hi)])
theorem Rel.left1 {cf : Cf} {M R : Nat} {bk : Bk} {l : List Gr} {dn : Nat → Nat → Bool} (h : Rel cf M R bk l dn) (hM : M ≤ 16) : (bk.ph = 1 ∧ 0 < leftOf dn 1 M) ∨ (bk.ph ≠ 1 ∧ leftOf dn 1 M = 0) := by
  have hph := h.ph
  by_cases e : bk.ph = 1
  · refine .inl ⟨e, ?_⟩
    obtain ⟨k, hk, hd⟩ := h.some (by omega)
    have hl := h.len (by omega)
    rw [e] at hl
    simp [nOf] at hl
    refine leftOf_pos k (by omega) ?_
    rw [h.dn 1 k (by omega) (by omega)]
    simp [dnOf, e, hk, hd]
  · refine .inr ⟨e, leftOf_zero fun i hi => ?_⟩
    rw [h.dn 1 i (by omega) (by omega)]
    unfold dnOf
    rw [if_neg (fun e' => e e'.symm)]
    simp [nOf, hi]; omega
theorem Rel.left2 {cf : Cf} {M R : Nat} {bk : Bk} {l : List Gr} {dn : Nat → Nat → Bool} (h : Rel cf M R bk l dn) (hR : 1 ≤ R ∧ R ≤ 16) : (bk.ph ≠ 3 ∧ 0 < leftOf dn 2 R) ∨ (bk.ph = 3 ∧ leftOf dn 2 R = 0) := by
  have hph := h.ph
  by_cases e : bk.ph = 3
  · refine .inr ⟨e, leftOf_zero fun i hi => ?_⟩
    rw [h.dn 2 i (by omega) (by omega)]
    unfold dnOf
    rw [if_neg (by omega)]
    simp [nOf, hi]; omega
  · refine .inl ⟨e, ?_⟩
    by_cases e2 : bk.ph = 2
    · obtain ⟨k, hk, hd⟩ := h.some (by omega)
      have hl := h.len (by omega)
      rw [e2] at hl
      simp [nOf] at hl
      refine leftOf_pos k (by omega) ?_
      rw [h.dn 2 k (by omega) (by omega)]
      simp [dnOf, e2, hk, hd]
    · refine leftOf_pos 0 (by omega) ?_
      rw [h.dn 2 0 (by omega) (by omega)]
      unfold dnOf
      rw [if_neg (fun e' => e2 e'.symm)]
      simp; omega
theorem Rel.nlive {cf : Cf} {M R : Nat} {bk : Bk} {l : List Gr} {dn : Nat → Nat → Bool} (h : Rel cf M R bk l dn) (k : Nat) (hk : k < bk.ts.length) : l.countP (Gr.cntAt cf.lease bk.now bk.ph k) = bk.ts[k].live.length := by
  rw [← sel_length _ l 0, ← h.live k hk, List.length_map]
theorem Rel.done {cf : Cf} {M R : Nat} {bk : Bk} {l : List Gr} {dn : Nat → Nat → Bool} (h : Rel cf M R bk l dn) (hM : M ≤ 16) (hR : R ≤ 16) (k : Nat) (hk : k < bk.ts.length) : bk.ph < 3 ∧ k < 16 ∧ dn bk.ph k = bk.ts[k].done := by
  have hph := h.ph
  have hp3 : bk.ph < 3 := by
    have h3 : bk.ph ≠ 3 := fun e => by have := h.nil e; rw [this] at hk; cases hk
    omega
  have hl := h.len hp3
  have h16 := lt16 (M := M) (R := R) (p := bk.ph) hM hR
  refine ⟨hp3, by omega, ?_⟩
  rw [h.dn _ k hp3 (by omega)]
  simp [dnOf, hk]
theorem Rel.bounds {cf : Cf} {M R : Nat} {bk : Bk} {l : List Gr} {dn : Nat → Nat → Bool} (h : Rel cf M R bk l dn) (hM : M ≤ 16) (hR : R ≤ 16) : bk.ts.length ≤ 16 ∧ (∀ t ∈ bk.ts, t.gr ≤ l.length) ∧ ∀ t ∈ bk.ts, t.live.length ≤ l.length := by
  refine ⟨?_, fun t ht => ?_, fun t ht => ?_⟩
  · have hph := h.ph
    by_cases e : bk.ph = 3
    · rw [h.nil e]; simp
    · rw [h.len (by omega)]; exact lt16 hM hR
  · obtain ⟨k, hk, rfl⟩ := List.getElem_of_mem ht
    rw [h.gr k hk]; exact List.countP_le_length
  · obtain ⟨k, hk, rfl⟩ := List.getElem_of_mem ht
    rw [← h.nlive k hk]; exact List.countP_le_length

/-- the start -/
theorem Rel.start {cf : Cf} {M R : Nat} (hM : 1 ≤ M) (hat : 1 ≤ cf.att) : Rel cf M R ⟨1, List.replicate M fresh, 0, 0, false⟩ [] (fun _ _ => false) := by
  refine ⟨rfl, by simp, fun _ => by simp [nOf], fun e => by simp at e, fun g hg => (by cases hg), fun g hg => (by cases hg), fun p i hp hi => ?_, fun j hj => by simp [fresh, sel], fun g hg => (by cases hg), fun j hj => by simp [fresh], fun j hj hd => by simp [fresh], fun _ j hj _ => by simp [fresh]; omega, fun hf => (by cases hf), fun _ => ⟨0, by simp; omega, by simp [fresh]⟩⟩
  unfold dnOf
  simp only
  split
  · by_cases hi2 : i < M
    · simp [hi2, fresh]
    · simp [hi2]
  · simp; omega

/-- the numbers of the attempts that count, task by task -/
def idsOf (ts : List Tk) : List Nat := (ts.map (fun t => t.live.map At.id)).flatten
theorem Rel.mem_ids {cf : Cf} {M R : Nat} {bk : Bk} {l : List Gr} {dn : Nat → Nat → Bool} (h : Rel cf M R bk l dn) (x : Nat) : x ∈ idsOf bk.ts ↔ ∃ j, ∃ hj : j < l.length, x = j + 1 ∧ (l[j]).cnt cf.lease bk.now = true := by
  unfold idsOf
  constructor
  · intro hx
    obtain ⟨y, hy, hx⟩ := List.mem_flatten.1 hx
    obtain ⟨t, ht, rfl⟩ := List.mem_map.1 hy
    obtain ⟨a, ha, rfl⟩ := List.mem_map.1 hx
    obtain ⟨k, hk, rfl⟩ := List.getElem_of_mem ht
    obtain ⟨i, hi, rfl⟩ := List.getElem_of_mem ha
    obtain ⟨j, hj, e1, _, _, e4⟩ := h.found ⟨hk, hi, rfl⟩
    exact ⟨j, hj, by omega, e4⟩
  · rintro ⟨j, hj, rfl, hc⟩
    obtain ⟨k, i, hk, hi, e⟩ := h.find hj hc
    refine List.mem_flatten.2 ⟨_, List.mem_map.2 ⟨bk.ts[k], List.getElem_mem hk, rfl⟩, List.mem_map.2 ⟨bk.ts[k].live[i], List.getElem_mem hi, by omega⟩⟩
/-- those that count, in the order of their numbers -/
def ctg (lease : Int) (now : Nat) (l : List Gr) : List Nat := (sel (Gr.cnt lease now) 0 l).map Prod.fst
theorem ctg_sorted (lease : Int) (now : Nat) (l : List Gr) : (ctg lease now l).Pairwise (· < ·) := by
  unfold ctg
  exact (List.pairwise_map (f := Prod.fst) (R := fun (x y : Nat) => x < y)).2 (sel_sorted _ l 0)
theorem ctg_mem (lease : Int) (now : Nat) (l : List Gr) (x : Nat) : x ∈ ctg lease now l ↔ ∃ j, ∃ hj : j < l.length, x = j + 1 ∧ (l[j]).cnt lease now = true := by
  unfold ctg
  constructor
  · intro hx
    obtain ⟨y, hy, rfl⟩ := List.mem_map.1 hx
    obtain ⟨j, hj, e, hp⟩ := (sel_mem _ _ l 0).1 hy
    exact ⟨j, hj, by rw [e]; simp, hp⟩
  · rintro ⟨j, hj, rfl, hp⟩
    exact List.mem_map.2 ⟨(0 + j + 1, (l[j]).hd), (sel_mem _ _ l 0).2 ⟨j, hj, rfl, hp⟩, by simp⟩
theorem ctg_length (lease : Int) (now : Nat) (l : List Gr) : (ctg lease now l).length = l.countP (Gr.cnt lease now) := by
  unfold ctg; rw [List.length_map, sel_length]
/-- no number stands twice -/
theorem Rel.ids_nodup {cf : Cf} {M R : Nat} {bk : Bk} {l : List Gr} {dn : Nat → Nat → Bool} (h : Rel cf M R bk l dn) : (idsOf bk.ts).Nodup := by
  unfold idsOf List.Nodup
  rw [List.pairwise_flatten]
  refine ⟨fun y hy => ?_, ?_⟩
  · obtain ⟨t, ht, rfl⟩ := List.mem_map.1 hy
    obtain ⟨k, hk, rfl⟩ := List.getElem_of_mem ht
    exact (List.pairwise_map).2 ((h.ids k hk).imp (fun e => by omega))
  · rw [List.pairwise_map, List.pairwise_iff_getElem]
    intro i j hi hj hij x hx y hy
    rintro rfl
    obtain ⟨a, ha, e1⟩ := List.mem_map.1 hx
    obtain ⟨b, hb, e2⟩ := List.mem_map.1 hy
    obtain ⟨m, hm, rfl⟩ := List.getElem_of_mem ha
    obtain ⟨n, hn, rfl⟩ := List.getElem_of_mem hb
    obtain ⟨u, hu, f1, _, f3, _⟩ := h.found ⟨hi, hm, rfl⟩
    obtain ⟨v, hv, g1, _, g3, _⟩ := h.found ⟨hj, hn, rfl⟩
    have : u = v := by omega
    subst this
    omega
theorem sorted_ext : ∀ {a b : List Nat}, a.Pairwise (· < ·) → b.Pairwise (· < ·) → (∀ x, x ∈ a ↔ x ∈ b) → a = b
  | [], [], _, _, _ => rfl
  | [], y :: b, _, _, h => absurd ((h y).2 (List.mem_cons_self ..)) (by simp)
  | x :: a, [], _, _, h => absurd ((h x).1 (List.mem_cons_self ..)) (by simp)
  | x :: a, y :: b, ha, hb, h => by
    have ha' := List.pairwise_cons.1 ha
    have hb' := List.pairwise_cons.1 hb
    have e : x = y := by
      rcases List.mem_cons.1 ((h x).1 (List.mem_cons_self ..)) with e | e
      · exact e
      · rcases List.mem_cons.1 ((h y).2 (List.mem_cons_self ..)) with e2 | e2
        · exact e2.symm
        · have := hb'.1 x e
          have := ha'.1 y e2
          omega
    subst e
    congr 1
    refine sorted_ext ha'.2 hb'.2 fun z => ⟨fun hz => ?_, fun hz => ?_⟩
    · rcases List.mem_cons.1 ((h z).1 (List.mem_cons_of_mem _ hz)) with e | e
      · subst e; exact absurd (ha'.1 z hz) (by omega)
      · exact e
    · rcases List.mem_cons.1 ((h z).2 (List.mem_cons_of_mem _ hz)) with e | e
      · subst e; exact absurd (hb'.1 z hz) (by omega)
      · exact e
/-- sorted, they are those that count by the statement's book -/
theorem Rel.sorted_ids {cf : Cf} {M R : Nat} {bk : Bk} {l : List Gr} {dn : Nat → Nat → Bool} (h : Rel cf M R bk l dn) {s : List Nat} (hs : s.Pairwise (· ≤ ·)) (hp : s.Perm (idsOf bk.ts)) : s = ctg cf.lease bk.now l := by
  have hn : s.Nodup := hp.nodup_iff.2 h.ids_nodup
  refine sorted_ext ?_ (ctg_sorted _ _ _) (fun x => ?_)
  · have := List.pairwise_and_iff.2 ⟨hs, hn⟩
    exact this.imp (fun ⟨e1, e2⟩ => by omega)
  · rw [hp.mem_iff, h.mem_ids, ctg_mem]
/-- how many live in all -/
theorem Rel.total {cf : Cf} {M R : Nat} {bk : Bk} {l : List Gr} {dn : Nat → Nat → Bool} (h : Rel cf M R bk l dn) : (idsOf bk.ts).length = l.countP (Gr.cnt cf.lease bk.now) := by
  rw [← ctg_length]
  have h1 : (idsOf bk.ts).Nodup := h.ids_nodup
  have h2 : (ctg cf.lease bk.now l).Nodup := (ctg_sorted _ _ _).imp (fun e => by omega)
  refine List.Perm.length_eq ((List.perm_ext_iff_of_nodup h1 h2).2 fun x => ?_)
  rw [h.mem_ids, ctg_mem]
/-- how many tasks of the phase are not done -/
theorem Rel.leftEq {cf : Cf} {M R : Nat} {bk : Bk} {l : List Gr} {dn : Nat → Nat → Bool} (h : Rel cf M R bk l dn) (hM : M ≤ 16) (hR : R ≤ 16) (hp : bk.ph < 3) : leftOf dn bk.ph (nOf M R bk.ph) = bk.ts.countP Tk.nd := by
  rw [← h.len hp]
  unfold leftOf
  have : bk.ts = (List.range bk.ts.length).map (fun i => bk.ts[i]?.getD fresh) := by
    apply List.ext_getElem
    · simp
    · intro i h1 h2
      simp [h1]
  conv => rhs; rw [this]
  rw [List.countP_map]
  apply List.countP_congr
  intro i hi
  have hi' : i < bk.ts.length := by simpa using hi
  rw [(h.done hM hR i hi').2.2]
  simp [Tk.nd, hi']
end Go.Proofs.YtibofakbhgmhiabGreatDoor

namespace Go.Proofs.YtibofakbhgmhiabGreatDoor
open Go.RowKit

def icn (l : List Nat) : List Value := l.map (fun n : Nat => Value.int .i64 (n : Int))
theorem icn_eq (l : List Nat) : icn l = (l.map (fun n : Nat => (n : Int))).map (Value.int .i64) := by
  unfold icn
  rw [List.map_map]
  rfl
theorem idsOf_take (ts : List Tk) (j : Nat) (h : j < ts.length) : idsOf (ts.take (j + 1)) = idsOf (ts.take j) ++ ts[j].live.map At.id := by
  unfold idsOf
  rw [List.take_succ_eq_append_getElem h, List.map_append, List.flatten_append]
  simp
theorem live_take (l : List At) (i : Nat) (h : i < l.length) : (l.take (i + 1)).map At.id = (l.take i).map At.id ++ [l[i].id] := by
  rw [List.take_succ_eq_append_getElem h, List.map_append]
  rfl
theorem idsOf_length (ts : List Tk) : (idsOf ts).length = stL ts := by
  unfold idsOf stL
  rw [List.length_flatten, List.map_map]
  congr 1
  apply List.map_congr_left
  intro t _
  simp
/-- sorted by the library -/
theorem sort_nat (l : List Nat) : ∃ s : List Nat, s.Pairwise (· ≤ ·) ∧ s.Perm l ∧ ((l.map (fun n : Nat => (n : Int))).mergeSort fun x y => decide (x ≤ y)) = s.map (fun n : Nat => (n : Int)) := by
  have hp := List.mergeSort_perm (l.map (fun n : Nat => (n : Int))) (fun x y => decide (x ≤ y))
  have hs := List.pairwise_mergeSort (le := fun (x y : Int) => decide (x ≤ y)) (fun a b c h1 h2 => by simp at h1 h2 ⊢; omega) (fun a b => by simp; omega) (l.map (fun n : Nat => (n : Int)))
  generalize (l.map (fun n : Nat => (n : Int))).mergeSort (fun x y => decide (x ≤ y)) = z at *
  refine ⟨z.map Int.toNat, ?_, ?_, ?_⟩
  · rw [List.pairwise_map]
    exact hs.imp (fun {a b} h => by simp at h; omega)
  · have := hp.map Int.toNat
    rw [List.map_map] at this
    have e : (Int.toNat ∘ fun n : Nat => (n : Int)) = id := by funext n; simp
    rw [e, List.map_id] at this
    exact this
  · rw [List.map_map]
    conv => lhs; rw [← List.map_id z]
    apply List.map_congr_left
    intro x hx
    obtain ⟨n, _, rfl⟩ := List.mem_map.1 (hp.mem_iff.1 hx)
    simp

set_option maxHeartbeats 2000000 in
set_option maxRecDepth 100000 in
theorem liveIDs {B Tb : Nat} {st : Int} {cf : Cf} {w : World} {bk : Bk} {tv : Value} {vs : List Value} (h : TbAt B Tb st cf w bk tv vs) (hl : bk.ts.length ≤ 1024) (hal : ∀ t ∈ bk.ts, t.live.length ≤ 1048576) :
    Calls Tryz.prog 156 #[.pointer (some ⟨Tb, 2, none⟩)] w fun e w' => (∃ v s, e = .returned v ∧ s.Pairwise (· ≤ ·) ∧ s.Perm (idsOf bk.ts) ∧ w'.ownsRow w.heap.size 3 1 v s.length (icn s)) ∧ Below w.heap.size w w' := by
  obtain ⟨i0, hi, hz0, hz1, hz2⟩ := info_parts Tryz.infoInt
  have hTl := lt_of_block h.blk
  obtain ⟨c10, c11, c12, c13, c14, fz⟩ := h.cells
  obtain ⟨a, c, rfl⟩ := h.ts.slice
  have HLT : Hid (∀ j, stL (bk.ts.take j) ≤ 1073741824) := fun j => by
    have h1 := stL_le (bk.ts.take j) (fun t ht => hal t (List.mem_of_mem_take ht))
    have h2 : (bk.ts.take j).length ≤ 1024 := by simp; omega
    have h3 := Nat.mul_le_mul_right 1048576 h2
    omega
  clear c10 c12 c13 c14 fz
  go_enter Tryz.func156, Tryz.ntmps156
  go_wp2_with fail
  go_loopw [3, 13] (fun v jv wr => ∃ j : Nat, j ≤ bk.ts.length ∧ jv = .int .i64 j ∧ wr.ownsRow w.heap.size 3 1 v (idsOf (bk.ts.take j)).length (icn (idsOf (bk.ts.take j))) ∧ Below w.heap.size w wr) (fun _ jv _ => bk.ts.length - (intOf jv).toNat)
  case atStart => exact ⟨0, Nat.zero_le _, rfl, by simpa [idsOf, icn] using World.ownsRow_nil w w.heap.size 3 1, Below.refl _ _⟩
  case round =>
    obtain ⟨j, hj, rfl, hown, hb⟩ := hrel
    have hsz := hb.size
    by_cases hjl : j < bk.ts.length
    · obtain ⟨g, c', e⟩ := h.ts.at0 j hjl
      simp only [Value.slice.injEq] at e
      obtain ⟨rfl, _, rfl⟩ := e
      obtain ⟨d0, d1, d2⟩ := (h.ts.below hb).cells j hjl
      have hjv : j < vs.length := by rw [h.ts.len]; exact hjl
      obtain ⟨la, lc, hlv⟩ := h.ts.lv j hjl hjv
      have hats := ats_of_own (h.ts.live j hjl hjv)
      rw [hlv] at d2 hats
      have hll := hal _ (List.getElem_mem hjl)
      have HE : Hid (idsOf (bk.ts.take (j + 1)) = idsOf (bk.ts.take j) ++ bk.ts[j].live.map At.id) := idsOf_take bk.ts j hjl
      have hln := idsOf_length (bk.ts.take j)
      have hl0 := HLT.out j
      have HAT : Hid (AtsAt w (.slice la bk.ts[j].live.length lc) bk.ts[j].live) := hats
      clear h hal hlv hats HLT c11
      generalize bk.ts[j] = t at *
      generalize idsOf (bk.ts.take j) = xs at *
      obtain ⟨dn, gr, lv⟩ := t
      simp only at d0 d1 d2 hll HE HAT
      have hxl : xs.length ≤ 1073741824 := by omega
      clear hln hl0
      have hb1 : Below w.heap.size w (wr.alloc (.cells #[.bool dn, .int .i64 gr, .slice la lv.length lc] 205)) := hb.alloc hsz _
      have hown1 := hown.alloc (.cells #[.bool dn, .int .i64 gr, .slice la lv.length lc] 205)
      clear hown hb
      go_wp2_with fail
      go_loopw [3, 20] (fun v iv wi => ∃ i : Nat, i ≤ lv.length ∧ iv = .int .i64 i ∧ wi.ownsRow w.heap.size 3 1 v (xs ++ (lv.take i).map At.id).length (icn (xs ++ (lv.take i).map At.id)) ∧ Below w.heap.size w wi) (fun _ iv _ => lv.length - (intOf iv).toNat)
      case atStart => exact ⟨0, Nat.zero_le _, rfl, by simpa using hown1, hb1⟩
      case round =>
        obtain ⟨i, hi2, rfl, hown, hb⟩ := hrel
        have hsz2 := hb.size
        by_cases hil : i < lv.length
        · obtain ⟨a', c2, e, hc⟩ := HAT.out
          simp only [Value.slice.injEq] at e
          obtain ⟨rfl, _, rfl⟩ := e
          obtain ⟨b, rfl, k0, k1, k2, k3⟩ := hc i hil
          have e0 := (hb.cell (p := ⟨b, i * 4, none⟩) (hp_lt k0)).trans k0
          have e1 := (hb.cell (p := ⟨b, i * 4 + 1, none⟩) (hp_lt k1)).trans k1
          have e2 := (hb.cell (p := ⟨b, i * 4 + 2, none⟩) (hp_lt k2)).trans k2
          have e3 := (hb.cell (p := ⟨b, i * 4 + 3, none⟩) (hp_lt k3)).trans k3
          have HX : Hid (xs ++ (lv.take (i + 1)).map At.id = (xs ++ (lv.take i).map At.id) ++ [lv[i].id]) := by
            show _ = _
            rw [live_take lv i hil, List.append_assoc]
          have hyl : (xs ++ (lv.take i).map At.id).length ≤ 1073741824 + 1048576 := by simp; omega
          clear hc k0 k1 k2 k3 hown1 hb1
          generalize lv[i] = x at *
          generalize xs ++ (lv.take i).map At.id = ys at *
          obtain ⟨xi, xf, xg, xh⟩ := x
          simp only at e0 e1 e2 e3 HX
          go_wp2_with (at_builtin; refine wpList_append_own _ rfl (.tmp 24) (.tmp 27) 66 rfl w.heap.size 3 i0 (.int .i64 0) 1 8 Tryz.underlying66 hi hz0 hz1 hz2 rfl (by decide) _ _ _ rfl ((hown.alloc _).alloc _) ⟨wr.heap.size + 1, 0, none⟩ 1 1 [.int .i64 xi] rfl rfl ?c1 ?c2 ?c3 ?c4 ?c5 ?_)
          case c1 =>
            intro q u hq
            have e : (⟨wr.heap.size + 1, 0, none⟩ : Addr).add q = ⟨wr.heap.size + 1, q, none⟩ := by unfold Addr.add; split <;> simp_all
            rw [e, World.cell?_alloc_at _ _ _ _ (by simp)]
            rcases q with _ | q
            · simpa using hq
            · simp at hq
          case c2 => intro u hu; simp at hu; subst hu; rfl
          case c3 => unfold maxLen; omega
          case c4 => omega
          case c5 => simp; omega
          intro v1 w1 hown3 hg1 _
          have hb3 : Below w.heap.size w w1 := ((hb.alloc hsz2 _).alloc (by simp; omega) _).grown hg1 (by simp; omega) (fun k hk => (hown.lt k hk).1)
          have hown4 : w1.ownsRow w.heap.size 3 1 v1 (ys ++ [xi]).length (icn (ys ++ [xi])) := by
            simpa [icn] using hown3
          clear hown3 hg1 hown
          go_wp2
          go_roundw
          case rel => exact ⟨i + 1, by omega, by go_num, by rw [HX.out]; exact hown4, hb3⟩
          case measure => simp [intOf]; omega
        · obtain rfl : i = lv.length := by omega
          rw [List.take_length] at hown
          have HO : Hid (wr.ownsRow w.heap.size 3 1 _ _ _) := hown
          clear hown hown1
          go_wp2
          go_roundw
          case rel => exact ⟨j + 1, by omega, by go_num, by rw [HE.out]; exact HO.out, hb⟩
          case measure => simp [intOf]; omega
    · obtain rfl : j = bk.ts.length := by omega
      rw [List.take_length] at hown
      have hln := idsOf_length bk.ts
      have hlt := HLT.out bk.ts.length
      rw [List.take_length] at hlt
      have hlen : (idsOf bk.ts).length ≤ 1073741824 := by omega
      clear h hal HLT c11 hln hlt
      rcases hown.2 with ⟨rfl, hn⟩ | ⟨g, cap, cur, rfl, hgB, hg, hnc, hcm, hcs, htk⟩
      · have hz : idsOf bk.ts = [] := List.eq_nil_of_length_eq_zero hn
        go_wp2_with (go_at_call 237; refine (Any.slices_Sort_int_none Tryz.laysSort none 0 _).mono ?_; rintro e w1 ⟨rfl, rfl⟩)
        go_ret
        refine ⟨⟨_, [], rfl, List.Pairwise.nil, by rw [hz], World.ownsRow_nil _ _ _ _⟩, hb⟩
      · obtain ⟨s, hs1, hs2, hs3⟩ := sort_nat (idsOf bk.ts)
        have HSL : Hid (s.length = (idsOf bk.ts).length) := hs2.length_eq
        have HS : Hid (Calls Tryz.prog 237 #[.slice (some ⟨g, 0, none⟩) (idsOf bk.ts).length cap] wr fun e w' => e = .returned (.tuple #[]) ∧ w'.ownsRow w.heap.size 3 1 (.slice (some ⟨g, 0, none⟩) (idsOf bk.ts).length cap) (idsOf bk.ts).length (icn s) ∧ Below w.heap.size w w') := by
          have hml : ((idsOf bk.ts).map (fun n : Nat => (n : Int))).length = (idsOf bk.ts).length := by simp
          have htk2 : cur.toList.take ((idsOf bk.ts).map (fun n : Nat => (n : Int))).length = ((idsOf bk.ts).map (fun n : Nat => (n : Int))).map (Value.int .i64) := by
            rw [hml, ← icn_eq]
            rw [Nat.mul_one] at htk
            exact htk
          have key := Any.slices_Sort_int Tryz.laysSort g 0 cap ((idsOf bk.ts).map (fun n : Nat => (n : Int))) wr (holds_of_blockI hg htk2) (lt_of_block hg) (by rw [hml]; omega)
          rw [hml] at key
          refine key.mono ?_
          rintro e w1 ⟨rfl, n, os, rfl⟩
          rw [hs3]
          have o1 := ownsRow_sortedI (w := wr) (base := w.heap.size) (g := g) (cap := cap) (n := n) (os := os) (ss := (idsOf bk.ts).map (fun n : Nat => (n : Int))) (ts := s.map (fun n : Nat => (n : Int))) (by simp [HSL.out]) hgB hg (by rw [hml]; exact hnc) hcm (by simpa using hcs)
          rw [hml] at o1
          rw [← icn_eq] at o1
          refine ⟨rfl, o1, hb.grown (grownBy_sortedI _) hsz (fun k hk => by cases hk; exact hgB)⟩
        have HS3 : Hid (_ ∧ _ ∧ _) := ⟨hs1, hs2, hs3⟩
        clear hown hg htk hs1 hs2 hs3 hgB hnc hcm hcs
        go_wp2_with (go_at_call 237; refine HS.out.mono ?_; rintro e w1 ⟨rfl, ho1, hb1⟩)
        go_ret
        exact ⟨⟨_, s, rfl, HS3.out.1, HS3.out.2.1, by rw [HSL.out]; exact ho1⟩, hb1⟩
end Go.Proofs.YtibofakbhgmhiabGreatDoor

namespace Go.Proofs.YtibofakbhgmhiabGreatDoor
open Go.RowKit Go.MuLone

theorem TbAt.but {B Tb : Nat} {st : Int} {cf : Cf} {w w' : World} {bk : Bk} {tv : Value} {vs : List Value} (h : TbAt B Tb st cf w bk tv vs) {X : Nat} {cc : Array Value} {t : TypeId} {fz : Nat × Nat} (hX : w.heap[X]? = some (.cells cc t fz)) (h0 : 126 ≠ t) (h1 : 205 ≠ t) (h2 : 283 ≠ t) (hw : ∀ k, k ≠ X → w'.heap[k]? = w.heap[k]?) : TbAt B Tb st cf w' bk tv vs := by
  refine ⟨?_, h.ts.but hX h1 h2 hw⟩
  rw [hw Tb ?_]
  · exact h.blk
  · rintro rfl
    have := h.blk
    rw [hX] at this
    simp only [Option.some.injEq, Obj.cells.injEq] at this
    exact h0 this.2.1.symm
theorem Tf.but {w W W' : World} (h : Tf w W) {X : Nat} (hX : w.heap.size ≤ X) (hw : ∀ k, k ≠ X → W'.heap[k]? = W.heap[k]?) (h1 : W'.os = W.os) (h2 : W'.tape = W.tape) (h3 : W'.output = W.output) (h4 : W.heap.size ≤ W'.heap.size) : Tf w W' :=
  ⟨h1.trans h.os, h2.trans h.tape, h3.trans h.output, Nat.le_trans h.size h4, fun k c t fz hk a b d => by
    have hlt := lt_of_block hk
    rw [hw k (by omega)]; exact h.block k c t fz hk a b d⟩
theorem Stands.below {B Tb : Nat} {st : Int} {cf : Cf} {w w1 w2 : World} {bk : Bk} (h : Stands B Tb st cf w bk w1) (hB : B ≤ w1.heap.size) (hb : Below w1.heap.size w1 w2) : Stands B Tb st cf w bk w2 := by
  obtain ⟨⟨tv, vs, hT⟩, h1, h2⟩ := h
  exact ⟨⟨tv, vs, hT.below hb⟩, h1.trans (hb.mono hB), h2.trans (Tf.of_below hb)⟩
theorem Stands.lt {B Tb : Nat} {st : Int} {cf : Cf} {w w1 : World} {bk : Bk} (h : Stands B Tb st cf w bk w1) : Tb < w1.heap.size := by
  obtain ⟨⟨tv, vs, hT⟩, _⟩ := h
  exact lt_of_block hT.blk

set_option maxHeartbeats 1000000 in
set_option maxRecDepth 100000 in
theorem tLive {B Tb : Nat} {cf : Cf} {w : World} {bk : Bk} {tv : Value} {vs : List Value} (h : TbAt B Tb 0 cf w bk tv vs) (hB : B ≤ Tb) (hl : bk.ts.length ≤ 1024) (hal : ∀ t ∈ bk.ts, t.live.length ≤ 1048576) :
    Calls Tryz.prog 86 #[.pointer (some ⟨Tb, 0, none⟩)] w fun e w' => (∃ v s, e = .returned v ∧ s.Pairwise (· ≤ ·) ∧ s.Perm (idsOf bk.ts) ∧ w'.ownsRow w.heap.size 3 1 v s.length (icn s)) ∧ Stands B Tb 0 cf w bk w' := by
  obtain ⟨hb0, ht0⟩ := lock_frame h hB
  have hTl := lt_of_block h.blk
  obtain ⟨a, c, rfl⟩ := h.ts.slice
  have HT : Hid (Calls Tryz.prog 156 #[.pointer (some ⟨Tb, 2, none⟩)] (w.setCell ⟨Tb, 0, none⟩ (.int .i32 1)) fun e w1 => ∃ a' n' c', e = .returned (.slice a' n' c') ∧ (w1.cell? ⟨Tb, 0, none⟩ = some (.int .i32 1) ∧ w1.frozen? ⟨Tb, 0, none⟩ = false) ∧ (∃ s, s.Pairwise (· ≤ ·) ∧ s.Perm (idsOf bk.ts) ∧ (w1.setCell ⟨Tb, 0, none⟩ (.int .i32 0)).ownsRow w.heap.size 3 1 (.slice a' n' c') s.length (icn s)) ∧ Stands B Tb 0 cf w bk (w1.setCell ⟨Tb, 0, none⟩ (.int .i32 0))) := by
    refine (liveIDs (h.setSt 1) hl hal).mono ?_
    rintro e w1 ⟨⟨v, s, rfl, h1, h2, h3⟩, hb1⟩
    have hS := still (h.setSt 1) hB hb1
    obtain ⟨a', c', rfl⟩ := hown_slice h3
    have hsz : (w.setCell ⟨Tb, 0, none⟩ (.int .i32 1)).heap.size = w.heap.size := by simp [World.setCell]
    rw [hsz] at h3
    refine ⟨a', _, c', rfl, hS.cells, ⟨s, h1, h2, ?_⟩, hS.unlock hB hb0 ht0⟩
    obtain ⟨⟨tv, vs, hT⟩, _⟩ := hS
    exact ownsRow_setCell_other h3 (own_ne h3 hT.blk (by decide)) _
  have hc := h.st_cell
  have hz := h.cells.2.2.2.2.2 0
  clear h hb0 ht0
  go_enter_defers Tryz.func86, Tryz.ntmps86
  go_wp2_with (first | (go_at_call 51; refine (lock_free Tryz.muLib ⟨Tb, 0, none⟩ _ hc hz).mono ?_; rintro e w' ⟨rfl, rfl⟩) | (go_at_call 156; refine HT.out.mono ?_; rintro e w1 ⟨a', n', c', rfl, ⟨q1, q2⟩, hs, hfin⟩))
  refine leaves_cons (f := 52) (args := #[.pointer (some ⟨Tb, 0, none⟩)]) (by simp) (by simp [go_sem]) ?_
  refine (unlock_deferred Tryz.muLib ⟨Tb, 0, none⟩ .returning _ q1 q2).mono ?_
  rintro e u' w'' ⟨rfl, rfl, rfl⟩
  refine ⟨_, results_tmp rfl _ _ _, ?_⟩
  obtain ⟨s, h1, h2, h3⟩ := hs
  exact ⟨⟨_, s, rfl, h1, h2, h3⟩, hfin⟩

end Go.Proofs.YtibofakbhgmhiabGreatDoor

namespace Go.Proofs.YtibofakbhgmhiabGreatDoor
open Go.RowKit Go.MuLone

set_option maxHeartbeats 600000 in
set_option maxRecDepth 100000 in
theorem tStatus {B Tb : Nat} {cf : Cf} {w : World} {bk : Bk} {tv : Value} {vs : List Value} (h : TbAt B Tb 0 cf w bk tv vs) (hB : B ≤ Tb) (hl : bk.ts.length ≤ 1048576) (hal : ∀ t ∈ bk.ts, t.live.length ≤ 1048576) :
    Calls Tryz.prog 85 #[.pointer (some ⟨Tb, 0, none⟩)] w fun e w' => e = .returned (statV bk) ∧ Stands B Tb 0 cf w bk w' := by
  have hTl := lt_of_block h.blk
  obtain ⟨hb0, ht0⟩ := lock_frame h hB
  have hsw : (w.setCell ⟨Tb, 0, none⟩ (.int .i32 1)).heap.size = w.heap.size := by simp [World.setCell]
  have HT : Hid (Calls Tryz.prog 155 #[.pointer (some ⟨Tb, 2, none⟩)] ((w.setCell ⟨Tb, 0, none⟩ (.int .i32 1)).alloc (.cells #[.int .i64 0, .int .i64 0, .int .i64 0, .int .i64 0, .int .i64 0, .int .i64 0, .int .i64 0, .bool false] 182)) fun e w1 => ∃ (x0 x1 x2 x3 x4 x5 x6 : Int) (x7 : Bool), e = .returned (.agg #[.int .i64 x0, .int .i64 x1, .int .i64 x2, .int .i64 x3, .int .i64 x4, .int .i64 x5, .int .i64 x6, .bool x7]) ∧ Hid (statV bk = .agg #[.int .i64 x0, .int .i64 x1, .int .i64 x2, .int .i64 x3, .int .i64 x4, .int .i64 x5, .int .i64 x6, .bool x7]) ∧ w1.heap[w.heap.size]? = some (.cells #[.int .i64 0, .int .i64 0, .int .i64 0, .int .i64 0, .int .i64 0, .int .i64 0, .int .i64 0, .bool false] 182 (0, 0)) ∧
      Hid (∀ W : World, (∀ k, k ≠ w.heap.size → W.heap[k]? = w1.heap[k]?) → W.os = w1.os → W.tape = w1.tape → W.output = w1.output → W.heap.size = w1.heap.size → (W.cell? ⟨Tb, 0, none⟩ = some (.int .i32 1) ∧ W.frozen? ⟨Tb, 0, none⟩ = false) ∧ Stands B Tb 0 cf w bk (W.setCell ⟨Tb, 0, none⟩ (.int .i32 0)))) := by
    have hba : Below (w.setCell ⟨Tb, 0, none⟩ (.int .i32 1)).heap.size (w.setCell ⟨Tb, 0, none⟩ (.int .i32 1)) ((w.setCell ⟨Tb, 0, none⟩ (.int .i32 1)).alloc (.cells #[.int .i64 0, .int .i64 0, .int .i64 0, .int .i64 0, .int .i64 0, .int .i64 0, .int .i64 0, .bool false] 182)) := (Below.refl _ _).alloc (Nat.le_refl _) _
    have hA := (h.setSt 1).below hba
    have hr0 : ((w.setCell ⟨Tb, 0, none⟩ (.int .i32 1)).alloc (.cells #[.int .i64 0, .int .i64 0, .int .i64 0, .int .i64 0, .int .i64 0, .int .i64 0, .int .i64 0, .bool false] 182)).heap[w.heap.size]? = some (.cells #[.int .i64 0, .int .i64 0, .int .i64 0, .int .i64 0, .int .i64 0, .int .i64 0, .int .i64 0, .bool false] 182 (0, 0)) := by
      have := alloc_at (w.setCell ⟨Tb, 0, none⟩ (.int .i32 1)) (.cells #[.int .i64 0, .int .i64 0, .int .i64 0, .int .i64 0, .int .i64 0, .int .i64 0, .int .i64 0, .bool false] 182)
      rw [hsw] at this
      exact this
    refine (status hA hl hal).mono ?_
    rintro e w1 ⟨rfl, hb1⟩
    have hr1 : w1.heap[w.heap.size]? = some (.cells #[.int .i64 0, .int .i64 0, .int .i64 0, .int .i64 0, .int .i64 0, .int .i64 0, .int .i64 0, .bool false] 182 (0, 0)) := by rw [hb1.block _ (by simp [World.setCell])]; exact hr0
    refine ⟨_, _, _, _, _, _, _, _, rfl, rfl, hr1, fun W hW o1 o2 o3 o4 => ?_⟩
    have hT := (hA.below hb1).but hr1 (by decide) (by decide) (by decide) hW
    have hb2 := hba.trans (hb1.mono (by simp [World.setCell]))
    rw [hsw] at hb2
    have hbW : Below B (w.setCell ⟨Tb, 0, none⟩ (.int .i32 1)) W := ⟨o1.trans hb2.os, o2.trans hb2.tape, o3.trans hb2.output, by rw [o4]; exact hb2.size, fun k hk => by rw [hW k (by omega)]; exact hb2.block k (by omega)⟩
    have hS : Stands B Tb 1 cf (w.setCell ⟨Tb, 0, none⟩ (.int .i32 1)) bk W := ⟨⟨_, _, hT⟩, hbW, (Tf.of_below (by rw [hsw]; exact hb2)).but (by rw [hsw]; exact Nat.le_refl _) hW o1 o2 o3 (by rw [o4]; exact Nat.le_refl _)⟩
    exact ⟨hS.cells, hS.unlock hB hb0 ht0⟩
  have hc := (World.cell?_alloc_lt w (.cells #[.int .i64 0, .int .i64 0, .int .i64 0, .int .i64 0, .int .i64 0, .int .i64 0, .int .i64 0, .bool false] 182) ⟨Tb, 0, none⟩ hTl).trans h.st_cell
  have hz : (w.alloc (.cells #[.int .i64 0, .int .i64 0, .int .i64 0, .int .i64 0, .int .i64 0, .int .i64 0, .int .i64 0, .bool false] 182)).frozen? ⟨Tb, 0, none⟩ = false := by simp only [World.frozen?, Below.heap_alloc w _ Tb hTl]; exact h.cells.2.2.2.2.2 0
  have hTn : ¬ w.heap.size = Tb := by omega
  clear h hb0 ht0 hal hsw hl hB
  go_enter_defers Tryz.func85, Tryz.ntmps85
  go_wp2_with (first | (go_at_call 51; refine (lock_free Tryz.muLib ⟨Tb, 0, none⟩ _ hc hz).mono ?_; rintro e w' ⟨rfl, rfl⟩) | (go_at_call 155; refine HT.out.mono ?_; rintro e w1 ⟨x0, x1, x2, x3, x4, x5, x6, x7, rfl, hv, hr1, hfin⟩; have fR : ∀ k, w1.frozen? ⟨w.heap.size, k, none⟩ = false := (by simp [World.frozen?, hr1]); have r0 : w1.cell? ⟨w.heap.size, 0, none⟩ = some (.int .i64 0) := (by simp [World.cell?, hr1]); have r1 : w1.cell? ⟨w.heap.size, 1, none⟩ = some (.int .i64 0) := (by simp [World.cell?, hr1]); have r2 : w1.cell? ⟨w.heap.size, 2, none⟩ = some (.int .i64 0) := (by simp [World.cell?, hr1]); have r3 : w1.cell? ⟨w.heap.size, 3, none⟩ = some (.int .i64 0) := (by simp [World.cell?, hr1]); have r4 : w1.cell? ⟨w.heap.size, 4, none⟩ = some (.int .i64 0) := (by simp [World.cell?, hr1]); have r5 : w1.cell? ⟨w.heap.size, 5, none⟩ = some (.int .i64 0) := (by simp [World.cell?, hr1]); have r6 : w1.cell? ⟨w.heap.size, 6, none⟩ = some (.int .i64 0) := (by simp [World.cell?, hr1]); have r7 : w1.cell? ⟨w.heap.size, 7, none⟩ = some (.bool false) := (by simp [World.cell?, hr1])))
  have hW : ∀ k, k ≠ w.heap.size → ((((((((w1.setCell ⟨w.heap.size, 0, none⟩ (.int .i64 x0)).setCell ⟨w.heap.size, 1, none⟩ (.int .i64 x1)).setCell ⟨w.heap.size, 2, none⟩ (.int .i64 x2)).setCell ⟨w.heap.size, 3, none⟩ (.int .i64 x3)).setCell ⟨w.heap.size, 4, none⟩ (.int .i64 x4)).setCell ⟨w.heap.size, 5, none⟩ (.int .i64 x5)).setCell ⟨w.heap.size, 6, none⟩ (.int .i64 x6)).setCell ⟨w.heap.size, 7, none⟩ (.bool x7)).heap[k]? = w1.heap[k]? := fun k hk => by
    rw [Below.heap_setCell _ ⟨w.heap.size, 7, none⟩ _ k hk, Below.heap_setCell _ ⟨w.heap.size, 6, none⟩ _ k hk, Below.heap_setCell _ ⟨w.heap.size, 5, none⟩ _ k hk, Below.heap_setCell _ ⟨w.heap.size, 4, none⟩ _ k hk, Below.heap_setCell _ ⟨w.heap.size, 3, none⟩ _ k hk, Below.heap_setCell _ ⟨w.heap.size, 2, none⟩ _ k hk, Below.heap_setCell _ ⟨w.heap.size, 1, none⟩ _ k hk, Below.heap_setCell _ ⟨w.heap.size, 0, none⟩ _ k hk]
  have hZ : ((((((((w1.setCell ⟨w.heap.size, 0, none⟩ (.int .i64 x0)).setCell ⟨w.heap.size, 1, none⟩ (.int .i64 x1)).setCell ⟨w.heap.size, 2, none⟩ (.int .i64 x2)).setCell ⟨w.heap.size, 3, none⟩ (.int .i64 x3)).setCell ⟨w.heap.size, 4, none⟩ (.int .i64 x4)).setCell ⟨w.heap.size, 5, none⟩ (.int .i64 x5)).setCell ⟨w.heap.size, 6, none⟩ (.int .i64 x6)).setCell ⟨w.heap.size, 7, none⟩ (.bool x7)).heap.size = w1.heap.size := by simp [World.setCell]
  have hB8 : Below 0 w1 ((((((((w1.setCell ⟨w.heap.size, 0, none⟩ (.int .i64 x0)).setCell ⟨w.heap.size, 1, none⟩ (.int .i64 x1)).setCell ⟨w.heap.size, 2, none⟩ (.int .i64 x2)).setCell ⟨w.heap.size, 3, none⟩ (.int .i64 x3)).setCell ⟨w.heap.size, 4, none⟩ (.int .i64 x4)).setCell ⟨w.heap.size, 5, none⟩ (.int .i64 x5)).setCell ⟨w.heap.size, 6, none⟩ (.int .i64 x6)).setCell ⟨w.heap.size, 7, none⟩ (.bool x7)) := (((((((((Below.refl 0 w1).setCell (p := ⟨w.heap.size, 0, none⟩) (Nat.zero_le _) (.int .i64 x0)).setCell (p := ⟨w.heap.size, 1, none⟩) (Nat.zero_le _) (.int .i64 x1)).setCell (p := ⟨w.heap.size, 2, none⟩) (Nat.zero_le _) (.int .i64 x2)).setCell (p := ⟨w.heap.size, 3, none⟩) (Nat.zero_le _) (.int .i64 x3)).setCell (p := ⟨w.heap.size, 4, none⟩) (Nat.zero_le _) (.int .i64 x4)).setCell (p := ⟨w.heap.size, 5, none⟩) (Nat.zero_le _) (.int .i64 x5)).setCell (p := ⟨w.heap.size, 6, none⟩) (Nat.zero_le _) (.int .i64 x6)).setCell (p := ⟨w.heap.size, 7, none⟩) (Nat.zero_le _) (.bool x7))
  obtain ⟨⟨q1, q2⟩, hfin2⟩ := hfin.out _ hW hB8.os hB8.tape hB8.output hZ
  refine leaves_cons (f := 52) (args := #[.pointer (some ⟨Tb, 0, none⟩)]) (by simp) (by simp [go_sem]) ?_
  refine (unlock_deferred Tryz.muLib ⟨Tb, 0, none⟩ .returning _ q1 q2).mono ?_
  rintro e u' w'' ⟨rfl, rfl, rfl⟩
  refine ⟨.agg #[.int .i64 x0, .int .i64 x1, .int .i64 x2, .int .i64 x3, .int .i64 x4, .int .i64 x5, .int .i64 x6, .bool x7], ?_, congrArg Ending.returned hv.out.symm, hfin2⟩
  simp [results, Tryz.results85, go_sem, r0, r1, r2, r3, r4, r5, r6, r7]
end Go.Proofs.YtibofakbhgmhiabGreatDoor

namespace Go.Proofs.YtibofakbhgmhiabGreatDoor
open Go.RowKit Go.MuLone

theorem numNil (w : World) : Calls Tryz.prog 27 #[.nilIface] w fun e w' => e = .returned (.tuple #[.int .i64 0, .int .i64 (-1)]) ∧ w' = w := by
  go_enter Tryz.func27, Tryz.ntmps27
  go_wp2
  go_ret2
  exact ⟨rfl, rfl⟩

/-- the reasons' variables, and the type's -/
def gl : List Nat := [0, 1, 2, 3, 4, 5, 6, 7, 8, 9, 10, 11]
theorem lt_ng {B g : Nat} (h : ∀ k ∈ gl, k < B) (hg : g ∈ gl) : g < B := h g hg
/-- the reasons lie below B -/
structure SL (B : Nat) (w : World) (a : Nat → Addr) : Prop where
  s : Sents w a
  lo : ∀ i, i < 11 → (a i).block < B
  ng : ∀ k ∈ gl, k < B
theorem SL.sents {B : Nat} {w w' : World} {a : Nat → Addr} (S : SL B w a) (hb : Below B w w') : Sents w' a where
  c0 := (hb.cell (p := ⟨0, 0, none⟩) (lt_ng S.ng (by decide))).trans S.s.c0
  c1 := (hb.cell (p := ⟨1, 0, none⟩) (lt_ng S.ng (by decide))).trans S.s.c1
  c2 := (hb.cell (p := ⟨2, 0, none⟩) (lt_ng S.ng (by decide))).trans S.s.c2
  c3 := (hb.cell (p := ⟨3, 0, none⟩) (lt_ng S.ng (by decide))).trans S.s.c3
  c4 := (hb.cell (p := ⟨4, 0, none⟩) (lt_ng S.ng (by decide))).trans S.s.c4
  c5 := (hb.cell (p := ⟨5, 0, none⟩) (lt_ng S.ng (by decide))).trans S.s.c5
  c6 := (hb.cell (p := ⟨6, 0, none⟩) (lt_ng S.ng (by decide))).trans S.s.c6
  c7 := (hb.cell (p := ⟨7, 0, none⟩) (lt_ng S.ng (by decide))).trans S.s.c7
  c8 := (hb.cell (p := ⟨8, 0, none⟩) (lt_ng S.ng (by decide))).trans S.s.c8
  c9 := (hb.cell (p := ⟨9, 0, none⟩) (lt_ng S.ng (by decide))).trans S.s.c9
  c10 := (hb.cell (p := ⟨10, 0, none⟩) (lt_ng S.ng (by decide))).trans S.s.c10
  et := (hb.cell (p := ⟨11, 0, none⟩) (lt_ng S.ng (by decide))).trans S.s.et
  blk := fun i hi => by
    obtain ⟨c, t, h⟩ := S.s.blk i hi
    exact ⟨c, t, by rw [hb.block _ (S.lo i hi)]; exact h⟩
  str := fun i hi => by
    obtain ⟨s, hs, hn⟩ := S.s.str i hi
    exact ⟨s, by rw [hb.cell (S.lo i hi)]; exact hs, hn⟩
  inj := S.s.inj
/-- at an entry -/
theorem SL.entry {w : World} {a : Nat → Addr} (S : Sents w a) : SL w.heap.size w a where
  s := S
  lo := fun i hi => by obtain ⟨c, t, h⟩ := S.blk i hi; exact (Array.getElem?_eq_some_iff.1 h).1
  ng := fun k hk => by
    simp only [gl, List.mem_cons, List.not_mem_nil, or_false] at hk
    rcases hk with rfl | rfl | rfl | rfl | rfl | rfl | rfl | rfl | rfl | rfl | rfl | rfl
    · exact hp_lt S.c0
    · exact hp_lt S.c1
    · exact hp_lt S.c2
    · exact hp_lt S.c3
    · exact hp_lt S.c4
    · exact hp_lt S.c5
    · exact hp_lt S.c6
    · exact hp_lt S.c7
    · exact hp_lt S.c8
    · exact hp_lt S.c9
    · exact hp_lt S.c10
    · exact hp_lt S.et
theorem SL.low {B : Nat} {w w' : World} {a : Nat → Addr} (S : SL B w a) (hb : Below B w w') : SL B w' a := ⟨S.sents hb, S.lo, S.ng⟩

/-- the number of an error -/
def errN (a : Nat → Addr) (e : Ending) (n : Int) : Prop := (e = .returned .nilIface ∧ n = 0) ∨ ∃ i, i < 11 ∧ e = .returned (.iface 513 (.pointer (some (a i)))) ∧ n = (i : Int) + 1
/-- an error is numbered, and nothing else happens -/
theorem numAll {B Tb : Nat} {st : Int} {cf : Cf} {w w1 : World} {bk' : Bk} {a : Nat → Addr} (S : SL B w a) (hS : Stands B Tb st cf w bk' w1) (hB : B ≤ Tb) (v : Value) (hv : v = .nilIface ∨ ∃ i, i < 11 ∧ v = .iface 513 (.pointer (some (a i)))) :
    Calls Tryz.prog 27 #[v] w1 fun e w2 => ∃ n m, e = .returned (.tuple #[.int .i64 n, .int .i64 m]) ∧ errN a (.returned v) n ∧ Stands B Tb st cf w bk' w2 ∧ Below w1.heap.size w1 w2 := by
  have hlt := hS.lt
  rcases hv with rfl | ⟨i, hi, rfl⟩
  · refine (numNil w1).mono ?_
    rintro e w2 ⟨rfl, rfl⟩
    exact ⟨_, _, rfl, .inl ⟨rfl, rfl⟩, hS, Below.refl _ _⟩
  · refine (number_es a i hi w1 (S.sents hS.2.1)).mono ?_
    rintro e w2 ⟨rfl, hb⟩
    exact ⟨_, _, rfl, .inr ⟨i, hi, rfl, rfl⟩, hS.below (by omega) hb, hb⟩

theorem no_which {bk : Bk} {id : Int} {a : Nat → Addr} {e : Ending} (h : bk.no id (a 5) (a 6) e) : ∃ v, e = .returned v ∧ (v = .nilIface ∨ ∃ i, i < 11 ∧ v = .iface 513 (.pointer (some (a i)))) := by
  rcases h with ⟨_, rfl⟩ | ⟨_, _, rfl⟩
  · exact ⟨_, rfl, .inr ⟨5, by omega, rfl⟩⟩
  · exact ⟨_, rfl, .inr ⟨6, by omega, rfl⟩⟩
theorem glob_ne {B Tb g : Nat} (h : ∀ k ∈ gl, k < B) (hB : B ≤ Tb) (hg : g ∈ gl) : g ≠ Tb := by have := h g hg; omega

set_option maxHeartbeats 1000000 in
theorem pCommit {B Tb : Nat} {cf : Cf} {w : World} {bk : Bk} {tv : Value} {vs : List Value} (h : TbAt B Tb 0 cf w bk tv vs) (hB : B ≤ Tb) (id : Int) (a : Nat → Addr) (S : SL B w a) (hl : bk.ts.length ≤ 1048576) (hal : ∀ t ∈ bk.ts, t.live.length ≤ 1048576) (R : Nat) (hR : cf.reds = (R : Int)) (hR2 : R ≤ 16) :
    Calls Tryz.prog 14 #[.pointer (some ⟨Tb, 0, none⟩), .int .i64 id] w fun e' w' => ∃ n e bk', e' = .returned (.int .i64 n) ∧ errN a e n ∧ commitR bk R id (a 5) (a 6) e bk' ∧ Stands B Tb 0 cf w bk' w' := by
  have HT : Hid (Calls Tryz.prog 29 #[.pointer (some ⟨Tb, 0, none⟩), .int .i64 id] w fun e w1 => ∃ v, e = .returned v ∧ Calls Tryz.prog 27 #[v] w1 fun e2 w2 => ∃ n m, e2 = .returned (.tuple #[.int .i64 n, .int .i64 m]) ∧ Hid (∃ e bk', errN a e n ∧ commitR bk R id (a 5) (a 6) e bk' ∧ Stands B Tb 0 cf w bk' w2)) := by
    refine (tCommit h hB id (a 5) (a 6) S.s.c5 S.s.c6 (glob_ne S.ng hB (by decide)) (glob_ne S.ng hB (by decide)) hl hal R hR hR2).mono ?_
    rintro e w1 ⟨bk', hc, hS⟩
    obtain ⟨v, rfl, hv⟩ : ∃ v, e = .returned v ∧ (v = .nilIface ∨ ∃ i, i < 11 ∧ v = .iface 513 (.pointer (some (a i)))) := by
      rcases hc with ⟨hno, _⟩ | ⟨_, rfl, _⟩
      · exact no_which hno
      · exact ⟨_, rfl, .inl rfl⟩
    refine ⟨v, rfl, (numAll S hS hB v hv).mono ?_⟩
    rintro e2 w2 ⟨n, m, rfl, hn, hS2, _⟩
    exact ⟨n, m, rfl, _, bk', hn, hc, hS2⟩
  clear h S hal hR
  go_enter Tryz.func14, Tryz.ntmps14
  go_wp2_with (first | (go_at_call 29; refine HT.out.mono ?_; rintro e w1 ⟨v, rfl, HN⟩) | (go_at_call 27; refine HN.mono ?_; rintro e w2 ⟨n, m, rfl, hfin⟩))
  go_ret
  obtain ⟨e, bk', h1, h2, h3⟩ := hfin.out
  exact ⟨n, e, bk', rfl, h1, h2, h3⟩
set_option maxHeartbeats 1000000 in
theorem pFail {B Tb : Nat} {cf : Cf} {w : World} {bk : Bk} {tv : Value} {vs : List Value} (h : TbAt B Tb 0 cf w bk tv vs) (hB : B ≤ Tb) (id : Int) (a : Nat → Addr) (S : SL B w a) (hl : bk.ts.length ≤ 1048576) (hal : ∀ t ∈ bk.ts, t.live.length ≤ 1048576) :
    Calls Tryz.prog 43 #[.pointer (some ⟨Tb, 0, none⟩), .int .i64 id] w fun e' w' => ∃ n e bk', e' = .returned (.int .i64 n) ∧ errN a e n ∧ failR bk cf id (a 5) (a 6) e bk' ∧ Stands B Tb 0 cf w bk' w' := by
  have HT : Hid (Calls Tryz.prog 83 #[.pointer (some ⟨Tb, 0, none⟩), .int .i64 id] w fun e w1 => ∃ v, e = .returned v ∧ Calls Tryz.prog 27 #[v] w1 fun e2 w2 => ∃ n m, e2 = .returned (.tuple #[.int .i64 n, .int .i64 m]) ∧ Hid (∃ e bk', errN a e n ∧ failR bk cf id (a 5) (a 6) e bk' ∧ Stands B Tb 0 cf w bk' w2)) := by
    refine (tFail h hB id (a 5) (a 6) S.s.c5 S.s.c6 (glob_ne S.ng hB (by decide)) (glob_ne S.ng hB (by decide)) hl hal).mono ?_
    rintro e w1 ⟨bk', hc, hS⟩
    obtain ⟨v, rfl, hv⟩ : ∃ v, e = .returned v ∧ (v = .nilIface ∨ ∃ i, i < 11 ∧ v = .iface 513 (.pointer (some (a i)))) := by
      rcases hc with ⟨hno, _⟩ | ⟨_, rfl, _⟩
      · exact no_which hno
      · exact ⟨_, rfl, .inl rfl⟩
    refine ⟨v, rfl, (numAll S hS hB v hv).mono ?_⟩
    rintro e2 w2 ⟨n, m, rfl, hn, hS2, _⟩
    exact ⟨n, m, rfl, _, bk', hn, hc, hS2⟩
  clear h S hal
  go_enter Tryz.func43, Tryz.ntmps43
  go_wp2_with (first | (go_at_call 83; refine HT.out.mono ?_; rintro e w1 ⟨v, rfl, HN⟩) | (go_at_call 27; refine HN.mono ?_; rintro e w2 ⟨n, m, rfl, hfin⟩))
  go_ret
  obtain ⟨e, bk', h1, h2, h3⟩ := hfin.out
  exact ⟨n, e, bk', rfl, h1, h2, h3⟩
set_option maxHeartbeats 1000000 in
theorem pHeartbeat {B Tb : Nat} {cf : Cf} {w : World} {bk : Bk} {tv : Value} {vs : List Value} (h : TbAt B Tb 0 cf w bk tv vs) (hB : B ≤ Tb) (id far : Int) (a : Nat → Addr) (S : SL B w a) (hl : bk.ts.length ≤ 1048576) (hal : ∀ t ∈ bk.ts, t.live.length ≤ 1048576) :
    Calls Tryz.prog 41 #[.pointer (some ⟨Tb, 0, none⟩), .int .i64 id, .int .i64 far] w fun e' w' => ∃ n e bk', e' = .returned (.int .i64 n) ∧ errN a e n ∧ beatR bk id far (a 0) (a 5) (a 6) e bk' ∧ Stands B Tb 0 cf w bk' w' := by
  have HT : Hid (Calls Tryz.prog 82 #[.pointer (some ⟨Tb, 0, none⟩), .int .i64 id, .int .i64 far] w fun e w1 => ∃ v, e = .returned v ∧ Calls Tryz.prog 27 #[v] w1 fun e2 w2 => ∃ n m, e2 = .returned (.tuple #[.int .i64 n, .int .i64 m]) ∧ Hid (∃ e bk', errN a e n ∧ beatR bk id far (a 0) (a 5) (a 6) e bk' ∧ Stands B Tb 0 cf w bk' w2)) := by
    refine (tHeartbeat h hB id far (a 0) (a 5) (a 6) S.s.c0 S.s.c5 S.s.c6 (glob_ne S.ng hB (by decide)) (glob_ne S.ng hB (by decide)) (glob_ne S.ng hB (by decide)) hl hal).mono ?_
    rintro e w1 ⟨bk', hc, hS⟩
    obtain ⟨v, rfl, hv⟩ : ∃ v, e = .returned v ∧ (v = .nilIface ∨ ∃ i, i < 11 ∧ v = .iface 513 (.pointer (some (a i)))) := by
      rcases hc with ⟨hno | ⟨_, _, rfl⟩, _⟩ | ⟨_, _, rfl, _⟩
      · exact no_which hno
      · exact ⟨_, rfl, .inr ⟨0, by omega, rfl⟩⟩
      · exact ⟨_, rfl, .inl rfl⟩
    refine ⟨v, rfl, (numAll S hS hB v hv).mono ?_⟩
    rintro e2 w2 ⟨n, m, rfl, hn, hS2, _⟩
    exact ⟨n, m, rfl, _, bk', hn, hc, hS2⟩
  clear h S hal
  go_enter Tryz.func41, Tryz.ntmps41
  go_wp2_with (first | (go_at_call 82; refine HT.out.mono ?_; rintro e w1 ⟨v, rfl, HN⟩) | (go_at_call 27; refine HN.mono ?_; rintro e w2 ⟨n, m, rfl, hfin⟩))
  go_ret
  obtain ⟨e, bk', h1, h2, h3⟩ := hfin.out
  exact ⟨n, e, bk', rfl, h1, h2, h3⟩
end Go.Proofs.YtibofakbhgmhiabGreatDoor

namespace Go.Proofs.YtibofakbhgmhiabGreatDoor
open Go.RowKit Go.MuLone

theorem TsAt.mono {B B' : Nat} {w : World} {tv : Value} {ts : List Tk} {vs : List Value} (h : TsAt B w tv ts vs) (hB : B' ≤ B) : TsAt B' w tv ts vs := ⟨own_mono h.row hB, h.len, fun k hk hv => own_mono (h.live k hk hv) hB, h.dis⟩
theorem TbAt.mono {B B' Tb : Nat} {st : Int} {cf : Cf} {w : World} {bk : Bk} {tv : Value} {vs : List Value} (h : TbAt B Tb st cf w bk tv vs) (hB : B' ≤ B) : TbAt B' Tb st cf w bk tv vs := ⟨h.blk, h.ts.mono hB⟩

set_option maxHeartbeats 1000000 in
set_option maxRecDepth 100000 in
theorem pNewTable (cf : Cf) (M : Nat) (hM : cf.maps = (M : Int)) (hok : cf.ok) (w : World) :
    Calls Tryz.prog 12 #[.agg #[.int .i64 cf.maps, .int .i64 cf.reds, .int .i64 cf.wrk, .int .i64 cf.att, .int .i64 cf.bck, .int .i64 cf.lease, .int .i64 cf.late, .int .i64 cf.cap]] w fun e w' => ∃ Tb, e = .returned (.tuple #[.pointer (some ⟨Tb, 0, none⟩), .int .i64 0]) ∧ w.heap.size ≤ Tb ∧ (∃ tv vs, TbAt w.heap.size Tb 0 cf w' ⟨1, List.replicate M fresh, 0, 0, false⟩ tv vs) ∧ Below w.heap.size w w' := by
  have HT : Hid (Calls Tryz.prog 26 #[.agg #[.int .i64 cf.maps, .int .i64 cf.reds, .int .i64 cf.wrk, .int .i64 cf.att, .int .i64 cf.bck, .int .i64 cf.lease, .int .i64 cf.late, .int .i64 cf.cap]] (w.alloc (.cells #[.int .i64 cf.maps, .int .i64 cf.reds, .int .i64 cf.wrk, .int .i64 cf.att, .int .i64 cf.bck, .int .i64 cf.lease, .int .i64 cf.late, .int .i64 cf.cap] 36)) fun e w1 => ∃ Tb, e = .returned (.tuple #[.pointer (some ⟨Tb, 0, none⟩), .nilIface]) ∧ w.heap.size ≤ Tb ∧ Hid ((∃ tv vs, TbAt w.heap.size Tb 0 cf w1 ⟨1, List.replicate M fresh, 0, 0, false⟩ tv vs) ∧ Below w.heap.size w w1)) := by
    refine (newTable cf M hM hok _).mono ?_
    rintro e w1 ⟨Tb, rfl, hle, ⟨tv, vs, hT⟩, hb⟩
    simp at hle
    exact ⟨Tb, rfl, by omega, ⟨tv, vs, hT.mono (by simp)⟩, ((Below.refl _ _).alloc (Nat.le_refl _) _).trans (hb.mono (by simp))⟩
  have HN : Hid (∀ W, Calls Tryz.prog 27 #[.nilIface] W fun e w' => e = .returned (.tuple #[.int .i64 0, .int .i64 (-1)]) ∧ w' = W) := fun W => numNil W
  clear hM hok
  go_enter Tryz.func12, Tryz.ntmps12
  go_wp2_with (first | (go_at_call 26; refine HT.out.mono ?_; rintro e w1 ⟨Tb, rfl, hle, hfin⟩) | (go_at_call 27; refine (HN.out _).mono ?_; rintro e w2 ⟨rfl, rfl⟩))
  go_ret2
  exact ⟨Tb, rfl, hle, hfin.out.1, hfin.out.2⟩
set_option maxHeartbeats 1000000 in
set_option maxRecDepth 100000 in
theorem pNewTable_no (cf : Cf) (hno : ¬ cf.ok) (w : World) (a : Nat → Addr) (S : Sents w a) :
    Calls Tryz.prog 12 #[.agg #[.int .i64 cf.maps, .int .i64 cf.reds, .int .i64 cf.wrk, .int .i64 cf.att, .int .i64 cf.bck, .int .i64 cf.lease, .int .i64 cf.late, .int .i64 cf.cap]] w fun e w' => e = .returned (.tuple #[.pointer none, .int .i64 1]) ∧ Below w.heap.size w w' := by
  have hb0 : Below w.heap.size w (w.alloc (.cells #[.int .i64 cf.maps, .int .i64 cf.reds, .int .i64 cf.wrk, .int .i64 cf.att, .int .i64 cf.bck, .int .i64 cf.lease, .int .i64 cf.late, .int .i64 cf.cap] 36)) := (Below.refl _ _).alloc (Nat.le_refl _) _
  have HT : Hid (Calls Tryz.prog 26 #[.agg #[.int .i64 cf.maps, .int .i64 cf.reds, .int .i64 cf.wrk, .int .i64 cf.att, .int .i64 cf.bck, .int .i64 cf.lease, .int .i64 cf.late, .int .i64 cf.cap]] (w.alloc (.cells #[.int .i64 cf.maps, .int .i64 cf.reds, .int .i64 cf.wrk, .int .i64 cf.att, .int .i64 cf.bck, .int .i64 cf.lease, .int .i64 cf.late, .int .i64 cf.cap] 36)) fun e w1 => e = .returned (.tuple #[.pointer none, .iface 513 (.pointer (some (a 0)))]) ∧ Calls Tryz.prog 27 #[.iface 513 (.pointer (some (a 0)))] w1 fun e w2 => e = .returned (.tuple #[.int .i64 1, .int .i64 (-1)]) ∧ Below w.heap.size w w2) := by
    have S1 := S.below hb0
    refine (newTable_no cf hno _ (a 0) S1.c0).mono ?_
    rintro e w1 ⟨rfl, hb⟩
    have S2 := S1.below hb
    refine ⟨rfl, (number_es a 0 (by omega) w1 S2).mono ?_⟩
    rintro e w2 ⟨rfl, hb2⟩
    have hs := hb.size
    simp at hs
    exact ⟨rfl, (hb0.trans (hb.mono (by simp))).trans (hb2.mono (by omega))⟩
  clear hno S hb0
  go_enter Tryz.func12, Tryz.ntmps12
  go_wp2_with (first | (go_at_call 26; refine HT.out.mono ?_; rintro e w1 ⟨rfl, HN⟩) | (go_at_call 27; refine HN.mono ?_; rintro e w2 ⟨rfl, hb2⟩))
  go_ret2
  exact ⟨rfl, hb2⟩

set_option maxHeartbeats 2000000 in
set_option maxRecDepth 100000 in
theorem pRequest {B Tb : Nat} {cf : Cf} {w : World} {bk : Bk} {tv : Value} {vs : List Value} (h : TbAt B Tb 0 cf w bk tv vs) (hB : B ≤ Tb) (a : Nat → Addr) (S : SL B w a) (hl : bk.ts.length ≤ 1048576) (h1 : bk.gs ≤ 1048576) (h2 : ∀ t ∈ bk.ts, t.gr ≤ 1048576) (h3 : ∀ t ∈ bk.ts, t.live.length ≤ 1048576) :
    Calls Tryz.prog 13 #[.pointer (some ⟨Tb, 0, none⟩)] w fun e' w' => ∃ x0 x1 x2 x3 n ev bk', e' = .returned (.tuple #[.agg #[.int .i64 x0, .int .i64 x1, .int .i64 x2, .bool x3], .int .i64 n]) ∧ errN a (.returned ev) n ∧ reqR bk cf (a 7) (a 8) (a 9) (.returned (.tuple #[.agg #[.int .i64 x0, .int .i64 x1, .int .i64 x2, .bool x3], ev])) bk' ∧ Stands B Tb 0 cf w bk' w' := by
  have hTl := lt_of_block h.blk
  have hba : Below w.heap.size w (w.alloc (.cells #[.int .i64 0, .int .i64 0, .int .i64 0, .bool false] 50)) := (Below.refl _ _).alloc (Nat.le_refl _) _
  have HT : Hid (Calls Tryz.prog 28 #[.pointer (some ⟨Tb, 0, none⟩)] (w.alloc (.cells #[.int .i64 0, .int .i64 0, .int .i64 0, .bool false] 50)) fun e w1 => ∃ (x0 x1 x2 : Int) (x3 : Bool) (ev : Value), e = .returned (.tuple #[.agg #[.int .i64 x0, .int .i64 x1, .int .i64 x2, .bool x3], ev]) ∧ (ev = .nilIface ∨ ∃ p, ev = .iface 513 (.pointer (some p))) ∧ Calls Tryz.prog 27 #[ev] (w1.alloc (.cells #[.int .i64 x0, .int .i64 x1, .int .i64 x2, .bool x3] 50)) fun e2 w2 => ∃ n m, e2 = .returned (.tuple #[.int .i64 n, .int .i64 m]) ∧ (w2.cell? ⟨w1.heap.size, 0, none⟩ = some (.int .i64 x0) ∧ w2.cell? ⟨w1.heap.size, 1, none⟩ = some (.int .i64 x1) ∧ w2.cell? ⟨w1.heap.size, 2, none⟩ = some (.int .i64 x2) ∧ w2.cell? ⟨w1.heap.size, 3, none⟩ = some (.bool x3)) ∧ (w2.cell? ⟨w.heap.size, 0, none⟩ = some (.int .i64 0) ∧ w2.cell? ⟨w.heap.size, 1, none⟩ = some (.int .i64 0) ∧ w2.cell? ⟨w.heap.size, 2, none⟩ = some (.int .i64 0) ∧ w2.cell? ⟨w.heap.size, 3, none⟩ = some (.bool false)) ∧ (∀ k, w2.frozen? ⟨w.heap.size, k, none⟩ = false) ∧ w1.heap.size ≠ w.heap.size ∧
      Hid (∀ W : World, (∀ k, k ≠ w.heap.size → W.heap[k]? = w2.heap[k]?) → W.os = w2.os → W.tape = w2.tape → W.output = w2.output → W.heap.size = w2.heap.size → ∃ bk', errN a (.returned ev) n ∧ reqR bk cf (a 7) (a 8) (a 9) (.returned (.tuple #[.agg #[.int .i64 x0, .int .i64 x1, .int .i64 x2, .bool x3], ev])) bk' ∧ Stands B Tb 0 cf w bk' W)) := by
    have hA := h.below hba
    have S1 := S.low (hba.mono (by omega))
    have hr0 := alloc_at w (.cells #[.int .i64 0, .int .i64 0, .int .i64 0, .bool false] 50)
    refine (tRequest hA hB (a 7) (a 8) (a 9) S1.s.c7 S1.s.c8 S1.s.c9 (glob_ne S.ng hB (by decide)) (glob_ne S.ng hB (by decide)) (glob_ne S.ng hB (by decide)) hl h1 h2 h3).mono ?_
    rintro e w1 ⟨bk', hR, hS⟩
    have hev : ∃ (x0 x1 x2 : Int) (x3 : Bool) (ev : Value), e = .returned (.tuple #[.agg #[.int .i64 x0, .int .i64 x1, .int .i64 x2, .bool x3], ev]) ∧ (ev = .nilIface ∨ ∃ i, i < 11 ∧ ev = .iface 513 (.pointer (some (a i)))) := by
      rcases hR with ⟨⟨_, rfl⟩ | ⟨_, _, rfl⟩ | ⟨_, _, _, rfl⟩, _⟩ | ⟨k, b, ⟨_, _, rfl, _⟩, _⟩
      · exact ⟨_, _, _, _, _, rfl, .inr ⟨9, by omega, rfl⟩⟩
      · exact ⟨_, _, _, _, _, rfl, .inr ⟨8, by omega, rfl⟩⟩
      · exact ⟨_, _, _, _, _, rfl, .inr ⟨7, by omega, rfl⟩⟩
      · exact ⟨_, _, _, _, _, rfl, .inl rfl⟩
    obtain ⟨x0, x1, x2, x3, ev, rfl, hev⟩ := hev
    have hr1 := hS.2.2.block _ _ _ _ hr0 (by decide) (by decide) (by decide)
    have hw1 := lt_of_block hr1
    have hS1 : Stands B Tb 0 cf w bk' w1 := ⟨hS.1, (hba.mono (by omega)).trans hS.2.1, (Tf.of_below hba).trans hS.2.2⟩
    have hb1 : Below w1.heap.size w1 (w1.alloc (.cells #[.int .i64 x0, .int .i64 x1, .int .i64 x2, .bool x3] 50)) := (Below.refl _ _).alloc (Nat.le_refl _) _
    have hS2 := hS1.below (by omega) hb1
    refine ⟨x0, x1, x2, x3, ev, rfl, ?_, (numAll S hS2 hB ev hev).mono ?_⟩
    · rcases hev with rfl | ⟨i, _, rfl⟩
      · exact .inl rfl
      · exact .inr ⟨_, rfl⟩
    · rintro e2 w2 ⟨n, m, rfl, hn, hS3, hb2⟩
      have hr2 : w2.heap[w.heap.size]? = some (.cells #[.int .i64 0, .int .i64 0, .int .i64 0, .bool false] 50 (0, 0)) := by rw [hb2.block _ (by simp; omega), hb1.block _ hw1]; exact hr1
      have hg : ∀ k, w2.cell? ⟨w1.heap.size, k, none⟩ = #[.int .i64 x0, .int .i64 x1, .int .i64 x2, .bool x3][k]? := fun k => by
        rw [hb2.cell (p := ⟨w1.heap.size, k, none⟩) (by simp), World.cell?_alloc_at _ _ _ _ (by simp)]
      refine ⟨n, m, rfl, ⟨hg 0, hg 1, hg 2, hg 3⟩, by simp [World.cell?, hr2], by simp [World.frozen?, hr2], by omega, fun W hW o1 o2 o3 o4 => ⟨bk', hn, hR, ?_⟩⟩
      obtain ⟨⟨tv', vs', hT⟩, hbb, htt⟩ := hS3
      exact ⟨⟨tv', vs', hT.but hr2 (by decide) (by decide) (by decide) hW⟩, ⟨o1.trans hbb.os, o2.trans hbb.tape, o3.trans hbb.output, by rw [o4]; exact hbb.size, fun k hk => by rw [hW k (by omega)]; exact hbb.block k hk⟩, htt.but (Nat.le_refl _) hW o1 o2 o3 (by rw [o4]; exact Nat.le_refl _)⟩
  clear h S h2 h3 hba
  go_enter Tryz.func13, Tryz.ntmps13
  go_wp2_with (first | (go_at_call 28; refine HT.out.mono ?_; rintro e w1 ⟨x0, x1, x2, x3, ev, rfl, hev, HN⟩; rcases hev with rfl | ⟨p, rfl⟩) | (go_at_call 27; refine HN.mono ?_; rintro e w2 ⟨n, m, rfl, ⟨g0, g1, g2, g3⟩, ⟨r0, r1, r2, r3⟩, fR, hne, hfin⟩))
  all_goals
    have hW : ∀ k, k ≠ w.heap.size → ((((w2.setCell ⟨w.heap.size, 0, none⟩ (.int .i64 x0)).setCell ⟨w.heap.size, 1, none⟩ (.int .i64 x1)).setCell ⟨w.heap.size, 2, none⟩ (.int .i64 x2)).setCell ⟨w.heap.size, 3, none⟩ (.bool x3)).heap[k]? = w2.heap[k]? := fun k hk => by
      rw [Below.heap_setCell _ ⟨w.heap.size, 3, none⟩ _ k hk, Below.heap_setCell _ ⟨w.heap.size, 2, none⟩ _ k hk, Below.heap_setCell _ ⟨w.heap.size, 1, none⟩ _ k hk, Below.heap_setCell _ ⟨w.heap.size, 0, none⟩ _ k hk]
    have hZ : ((((w2.setCell ⟨w.heap.size, 0, none⟩ (.int .i64 x0)).setCell ⟨w.heap.size, 1, none⟩ (.int .i64 x1)).setCell ⟨w.heap.size, 2, none⟩ (.int .i64 x2)).setCell ⟨w.heap.size, 3, none⟩ (.bool x3)).heap.size = w2.heap.size := by simp [World.setCell]
    have hB4 : Below 0 w2 ((((w2.setCell ⟨w.heap.size, 0, none⟩ (.int .i64 x0)).setCell ⟨w.heap.size, 1, none⟩ (.int .i64 x1)).setCell ⟨w.heap.size, 2, none⟩ (.int .i64 x2)).setCell ⟨w.heap.size, 3, none⟩ (.bool x3)) := (((((Below.refl 0 w2).setCell (p := ⟨w.heap.size, 0, none⟩) (Nat.zero_le _) (.int .i64 x0)).setCell (p := ⟨w.heap.size, 1, none⟩) (Nat.zero_le _) (.int .i64 x1)).setCell (p := ⟨w.heap.size, 2, none⟩) (Nat.zero_le _) (.int .i64 x2)).setCell (p := ⟨w.heap.size, 3, none⟩) (Nat.zero_le _) (.bool x3))
    obtain ⟨bk', f1, f2, f3⟩ := hfin.out _ hW hB4.os hB4.tape hB4.output hZ
    exact bodyPost_ret (v := .tuple #[.agg #[.int .i64 x0, .int .i64 x1, .int .i64 x2, .bool x3], .int .i64 n]) (by simp [results, Tryz.results13, go_sem, r0, r1, r2, r3]) rfl ⟨x0, x1, x2, x3, n, _, bk', rfl, f1, f2, f3⟩
end Go.Proofs.YtibofakbhgmhiabGreatDoor

namespace Go.Proofs.YtibofakbhgmhiabGreatDoor
open Go.RowKit Go.MuLone

theorem errN_at {a : Nat → Addr} {w : World} (S : Sents w a) {j : Nat} (hj : j < 11) {n : Int} (h : errN a (.returned (.iface 513 (.pointer (some (a j))))) n) : n = (j : Int) + 1 := by
  rcases h with ⟨h, _⟩ | ⟨i, hi, h, rfl⟩
  · cases h
  · simp only [Ending.returned.injEq, Value.iface.injEq, Value.pointer.injEq, Option.some.injEq] at h
    have := S.inj j i hj hi h.2
    omega
theorem errN_nil {a : Nat → Addr} {n : Int} (h : errN a (.returned .nilIface) n) : n = 0 := by
  rcases h with ⟨_, rfl⟩ | ⟨i, hi, h, rfl⟩
  · rfl
  · cases h

theorem pReqA {B Tb : Nat} {cf : Cf} {w : World} {bk : Bk} {tv : Value} {vs : List Value} (h : TbAt B Tb 0 cf w bk tv vs) (hB : B ≤ Tb) (a : Nat → Addr) (S : SL B w a) (hl : bk.ts.length ≤ 1048576) (h1 : bk.gs ≤ 1048576) (h2 : ∀ t ∈ bk.ts, t.gr ≤ 1048576) (h3 : ∀ t ∈ bk.ts, t.live.length ≤ 1048576) (hf : bk.fl = true) :
    Calls Tryz.prog 13 #[.pointer (some ⟨Tb, 0, none⟩)] w fun e' w' => e' = .returned (.tuple #[.agg #[.int .i64 0, .int .i64 0, .int .i64 0, .bool false], .int .i64 10]) ∧ Stands B Tb 0 cf w bk w' := by
  refine (pRequest h hB a S hl h1 h2 h3).mono ?_
  rintro e w1 ⟨x0, x1, x2, x3, n, ev, bk', rfl, hn, hr, hS⟩
  rcases hr with ⟨⟨_, e⟩ | ⟨hf2, _, e⟩ | ⟨hf2, _, _, e⟩, rfl⟩ | ⟨k, b, ⟨hf2, _⟩, _⟩
  · simp only [noGrant, Ending.returned.injEq, Value.tuple.injEq, Array.mk.injEq, List.cons.injEq, Value.agg.injEq, Value.int.injEq, true_and, Value.bool.injEq, and_true] at e
    obtain ⟨⟨rfl, rfl, rfl, rfl⟩, rfl⟩ := e
    have := errN_at S.s (by omega) hn
    subst this
    exact ⟨rfl, hS⟩
  · rw [hf] at hf2; cases hf2
  · rw [hf] at hf2; cases hf2
  · rw [hf] at hf2; cases hf2
theorem pReqB {B Tb : Nat} {cf : Cf} {w : World} {bk : Bk} {tv : Value} {vs : List Value} (h : TbAt B Tb 0 cf w bk tv vs) (hB : B ≤ Tb) (a : Nat → Addr) (S : SL B w a) (hl : bk.ts.length ≤ 1048576) (h1 : bk.gs ≤ 1048576) (h2 : ∀ t ∈ bk.ts, t.gr ≤ 1048576) (h3 : ∀ t ∈ bk.ts, t.live.length ≤ 1048576) (hf : bk.fl = false) (hp : bk.ph = 3) :
    Calls Tryz.prog 13 #[.pointer (some ⟨Tb, 0, none⟩)] w fun e' w' => e' = .returned (.tuple #[.agg #[.int .i64 0, .int .i64 0, .int .i64 0, .bool false], .int .i64 9]) ∧ Stands B Tb 0 cf w bk w' := by
  refine (pRequest h hB a S hl h1 h2 h3).mono ?_
  rintro e w1 ⟨x0, x1, x2, x3, n, ev, bk', rfl, hn, hr, hS⟩
  rcases hr with ⟨⟨hf2, e⟩ | ⟨hf2, _, e⟩ | ⟨hf2, hp2, _, e⟩, rfl⟩ | ⟨k, b, ⟨hf2, hp2, _⟩, _⟩
  · rw [hf] at hf2; cases hf2
  · simp only [noGrant, Ending.returned.injEq, Value.tuple.injEq, Array.mk.injEq, List.cons.injEq, Value.agg.injEq, Value.int.injEq, true_and, Value.bool.injEq, and_true] at e
    obtain ⟨⟨rfl, rfl, rfl, rfl⟩, rfl⟩ := e
    have := errN_at S.s (by omega) hn
    subst this
    exact ⟨rfl, hS⟩
  · exact absurd hp hp2
  · exact absurd hp hp2
theorem pReqC {B Tb : Nat} {cf : Cf} {w : World} {bk : Bk} {tv : Value} {vs : List Value} (h : TbAt B Tb 0 cf w bk tv vs) (hB : B ≤ Tb) (a : Nat → Addr) (S : SL B w a) (hl : bk.ts.length ≤ 1048576) (h1 : bk.gs ≤ 1048576) (h2 : ∀ t ∈ bk.ts, t.gr ≤ 1048576) (h3 : ∀ t ∈ bk.ts, t.live.length ≤ 1048576) (hf : bk.fl = false) (hp : bk.ph ≠ 3) :
    Calls Tryz.prog 13 #[.pointer (some ⟨Tb, 0, none⟩)] w fun e' w' => (e' = .returned (.tuple #[.agg #[.int .i64 0, .int .i64 0, .int .i64 0, .bool false], .int .i64 8]) ∧ (∀ j (hj : j < bk.ts.length), bk.ts[j].idle = false) ∧ Stands B Tb 0 cf w bk w') ∨
      (∃ k b, ∃ hk : k < bk.ts.length, e' = .returned (.tuple #[.agg #[.int .i64 ((bk.gs : Int) + 1), .int .i64 k, .int .i64 bk.ph, .bool b], .int .i64 0]) ∧ ((b = false ∧ bk.ts[k].idle = true) ∨ (b = true ∧ (∀ j (hj : j < bk.ts.length), bk.ts[j].idle = false) ∧ bk.ts[k].mayB cf = true)) ∧ Stands B Tb 0 cf w (bk.granted k bk.ts[k]) w') := by
  refine (pRequest h hB a S hl h1 h2 h3).mono ?_
  rintro e w1 ⟨x0, x1, x2, x3, n, ev, bk', rfl, hn, hr, hS⟩
  rcases hr with ⟨⟨hf2, e⟩ | ⟨hf2, hp2, e⟩ | ⟨hf2, hp2, hid, e⟩, rfl⟩ | ⟨k, b, ⟨hf2, hp2, e, hcase⟩, hk, rfl⟩
  · rw [hf] at hf2; cases hf2
  · exact absurd hp2 hp
  · simp only [noGrant, Ending.returned.injEq, Value.tuple.injEq, Array.mk.injEq, List.cons.injEq, Value.agg.injEq, Value.int.injEq, true_and, Value.bool.injEq, and_true] at e
    obtain ⟨⟨rfl, rfl, rfl, rfl⟩, rfl⟩ := e
    have := errN_at S.s (by omega) hn
    subst this
    exact .inl ⟨rfl, hid, hS⟩
  · simp only [Ending.returned.injEq, Value.tuple.injEq, Array.mk.injEq, List.cons.injEq, Value.agg.injEq, Value.int.injEq, true_and, Value.bool.injEq, and_true] at e
    obtain ⟨⟨rfl, rfl, rfl, rfl⟩, rfl⟩ := e
    have := errN_nil hn
    subst this
    refine .inr ⟨k, x3, hk, rfl, ?_, hS⟩
    rcases hcase with ⟨rfl, _, h5⟩ | ⟨rfl, h5, _, h6⟩
    · exact .inl ⟨rfl, h5⟩
    · exact .inr ⟨rfl, h5, h6⟩
end Go.Proofs.YtibofakbhgmhiabGreatDoor

namespace Go.Proofs.YtibofakbhgmhiabGreatDoor
open Go.RowKit Go.MuLone

/-- what a call of the table lets be: all but the table's own, what was granted, and the world's block behind its first eleven cells -/
structure Fc (Wb : Nat) (w w' : World) : Prop where
  block : ∀ (k : Nat) (c : Array Value) (t : TypeId) (fz : Nat × Nat), w.heap[k]? = some (.cells c t fz) → t ≠ 43 → t ≠ 126 → t ≠ 205 → t ≠ 283 → t ≠ 112 → w'.heap[k]? = some (.cells c t fz)
  wblk : ∀ cs, w.heap[Wb]? = some (.cells cs 43 (0, 0)) → ∃ cs', w'.heap[Wb]? = some (.cells cs' 43 (0, 0)) ∧ cs'.size = cs.size ∧ ∀ j, j < 11 → cs'[j]? = cs[j]?
theorem Fc.refl (Wb : Nat) (w : World) : Fc Wb w w := ⟨fun _ _ _ _ h _ _ _ _ _ => h, fun cs h => ⟨cs, h, rfl, fun _ _ => rfl⟩⟩
theorem Fc.trans {Wb : Nat} {a b c : World} (h : Fc Wb a b) (k : Fc Wb b c) : Fc Wb a c := by
  refine ⟨fun i cc t fz hi h1 h2 h3 h4 h5 => k.block i cc t fz (h.block i cc t fz hi h1 h2 h3 h4 h5) h1 h2 h3 h4 h5, fun cs hcs => ?_⟩
  obtain ⟨cs1, e1, e2, e3⟩ := h.wblk cs hcs
  obtain ⟨cs2, f1, f2, f3⟩ := k.wblk cs1 e1
  exact ⟨cs2, f1, f2.trans e2, fun j hj => (f3 j hj).trans (e3 j hj)⟩
theorem Fc.of_below {Wb : Nat} {w w' : World} (hb : Below w.heap.size w w') : Fc Wb w w' :=
  ⟨fun k c t fz hk _ _ _ _ _ => by rw [hb.block k (lt_of_block hk)]; exact hk, fun cs hcs => ⟨cs, by rw [hb.block Wb (lt_of_block hcs)]; exact hcs, rfl, fun _ _ => rfl⟩⟩
theorem Fc.of_tf {Wb : Nat} {w w' : World} (ht : Tf w w') : Fc Wb w w' :=
  ⟨fun k c t fz hk _ h1 h2 h3 _ => ht.block k c t fz hk h1 h2 h3, fun cs hcs => ⟨cs, ht.block _ _ _ _ hcs (by decide) (by decide) (by decide), rfl, fun _ _ => rfl⟩⟩
theorem Fc.put {Wb : Nat} {w : World} {cs0 : Array Value} (h0 : w.heap[Wb]? = some (.cells cs0 43 (0, 0))) (j : Nat) (hj : 11 ≤ j) (v : Value) : Fc Wb w (w.setCell ⟨Wb, j, none⟩ v) := by
  refine ⟨fun k c t fz hk h1 _ _ _ _ => ?_, fun cs hcs => ⟨_, put_block hcs, by simp, fun i hi => set_other (by omega)⟩⟩
  rw [Below.heap_setCell _ ⟨Wb, j, none⟩ _ k (by rintro rfl; rw [h0] at hk; simp only [Option.some.injEq, Obj.cells.injEq] at hk; exact h1 hk.2.1.symm)]
  exact hk
theorem Fc.gset {Wb g : Nat} {w : World} {cc : Array Value} (hg : w.heap[g]? = some (.cells cc 112 (0, 0))) (j : Nat) (v : Value) : Fc Wb w (w.setCell ⟨g, j, none⟩ v) := by
  refine ⟨fun k c t fz hk _ _ _ _ h5 => ?_, fun cs hcs => ⟨cs, ?_, rfl, fun _ _ => rfl⟩⟩
  · rw [Below.heap_setCell _ ⟨g, j, none⟩ _ k (by rintro rfl; rw [hg] at hk; simp only [Option.some.injEq, Obj.cells.injEq] at hk; exact h5 hk.2.1.symm)]
    exact hk
  · rw [Below.heap_setCell _ ⟨g, j, none⟩ _ Wb (by rintro rfl; rw [hg] at hcs; simp at hcs)]
    exact hcs
theorem Fc.grown {Wb : Nat} {w w2 : World} {B : Nat} {v : Value} {n : Nat} {xs : List Value} (ho : w.ownsRow B 112 5 v n xs) (hg : w.grownBy w2 v.ownBlock) : Fc Wb w w2 := by
  refine ⟨fun k c t fz hk _ _ _ _ h5 => ?_, fun cs hcs => ⟨cs, ?_, rfl, fun _ _ => rfl⟩⟩
  · rw [hg.block k (lt_of_block hk) (fun e => own_ne ho hk (fun e2 => h5 e2.symm) e.symm)]; exact hk
  · rw [hg.block Wb (lt_of_block hcs) (fun e => own_ne ho hcs (by decide) e.symm)]; exact hcs

/-- the world of the statement, with a table -/
structure LS (Wb : Nat) (w : World) (cf : Cf) (M R Tb : Nat) (bk : Bk) (l : List Gr) (dn : Nat → Nat → Bool) (lv tv : Value) (vs : List Value) (N : Nat) : Prop where
  blk : ∃ cs, w.heap[Wb]? = some (.cells cs 43 (0, 0)) ∧ cs.size = 71
  K : KB Wb w cf l dn bk.now lv
  T : TbAt Wb Tb 0 cf w bk tv vs
  rel : Rel cf M R bk l dn
  ok : cf.ok
  hM : cf.maps = (M : Int)
  hR : cf.reds = (R : Int)
  t : w.cell? ⟨Wb, 11, none⟩ = some (.pointer (some ⟨Tb, 0, none⟩))
  m : w.cell? ⟨Wb, 12, none⟩ = some (.bool true)
  gs : bk.gs ≤ N
  now : bk.now ≤ N
  WT : Wb ≤ Tb
/-- how it stands, whatever the books hold -/
def LH (Wb : Nat) (cf : Cf) (M R Tb N : Nat) (w : World) : Prop := ∃ bk l dn lv tv vs, LS Wb w cf M R Tb bk l dn lv tv vs N
theorem LS.bounds {Wb : Nat} {w : World} {cf : Cf} {M R Tb : Nat} {bk : Bk} {l : List Gr} {dn : Nat → Nat → Bool} {lv tv : Value} {vs : List Value} {N : Nat} (L : LS Wb w cf M R Tb bk l dn lv tv vs N) (hN : N ≤ 1048576) : (1 ≤ M ∧ M ≤ 16) ∧ (1 ≤ R ∧ R ≤ 16) ∧ bk.ts.length ≤ 16 ∧ bk.gs ≤ 1048576 ∧ (∀ t ∈ bk.ts, t.gr ≤ 1048576) ∧ (∀ t ∈ bk.ts, t.live.length ≤ 1048576) ∧ l.length ≤ 1048576 ∧ bk.now ≤ 1048576 := by
  have ok := L.ok
  have h1 := ok.1
  have h2 := ok.2.1
  rw [L.hM] at h1
  rw [L.hR] at h2
  have hM : 1 ≤ M ∧ M ≤ 16 := by omega
  have hR : 1 ≤ R ∧ R ≤ 16 := by omega
  obtain ⟨b1, b2, b3⟩ := L.rel.bounds hM.2 hR.2
  have hg := L.gs
  have hn := L.now
  have hgs := L.rel.gs
  exact ⟨hM, hR, b1, by omega, fun t ht => by have := b2 t ht; omega, fun t ht => by have := b3 t ht; omega, by omega, by omega⟩
theorem KB.tf {Wb : Nat} {w w' : World} {cf : Cf} {l : List Gr} {dn : Nat → Nat → Bool} {now : Nat} {lv : Value} (K : KB Wb w cf l dn now lv) {cs : Array Value} (hblk : w.heap[Wb]? = some (.cells cs 43 (0, 0))) (ht : Tf w w') : KB Wb w' cf l dn now lv := by
  have e := ht.block _ _ _ _ hblk (by decide) (by decide) (by decide)
  have hc : ∀ j, w'.cell? ⟨Wb, j, none⟩ = w.cell? ⟨Wb, j, none⟩ := fun j => by simp only [World.cell?, e, hblk]
  exact ⟨(hc _).trans K.c0, (hc _).trans K.c1, (hc _).trans K.c2, (hc _).trans K.c3, (hc _).trans K.c4, (hc _).trans K.c5, (hc _).trans K.c6, (hc _).trans K.c7, (hc _).trans K.cl, ht.own K.row (by decide) (by decide) (by decide), fun p t hp hq => (hc _).trans (K.cd p t hp hq), (hc _).trans K.cn⟩
/-- behind a call of the table: the book is as it was -/
theorem LS.stands {Wb : Nat} {w w1 : World} {cf : Cf} {M R Tb : Nat} {bk bk' : Bk} {l : List Gr} {dn : Nat → Nat → Bool} {lv tv : Value} {vs : List Value} {N : Nat} (L : LS Wb w cf M R Tb bk l dn lv tv vs N) (hS : Stands Wb Tb 0 cf w bk' w1) : (∃ cs, w1.heap[Wb]? = some (.cells cs 43 (0, 0)) ∧ cs.size = 71) ∧ KB Wb w1 cf l dn bk.now lv ∧ (∃ tv' vs', TbAt Wb Tb 0 cf w1 bk' tv' vs') ∧ (w1.cell? ⟨Wb, 11, none⟩ = some (.pointer (some ⟨Tb, 0, none⟩)) ∧ w1.cell? ⟨Wb, 12, none⟩ = some (.bool true)) ∧ Fc Wb w w1 ∧ Below Wb w w1 := by
  obtain ⟨hT, hb, ht⟩ := hS
  obtain ⟨cs, hcs, hsz⟩ := L.blk
  have e := ht.block _ _ _ _ hcs (by decide) (by decide) (by decide)
  exact ⟨⟨cs, e, hsz⟩, L.K.tf hcs ht, hT, ⟨by have := L.t; simpa only [World.cell?, e, hcs] using this, by have := L.m; simpa only [World.cell?, e, hcs] using this⟩, Fc.of_tf ht, hb⟩
/-- nothing but new blocks -/
theorem LS.below {Wb : Nat} {w w1 : World} {cf : Cf} {M R Tb : Nat} {bk : Bk} {l : List Gr} {dn : Nat → Nat → Bool} {lv tv : Value} {vs : List Value} {N : Nat} (L : LS Wb w cf M R Tb bk l dn lv tv vs N) (hb : Below w.heap.size w w1) : LS Wb w1 cf M R Tb bk l dn lv tv vs N := by
  obtain ⟨cs, hcs, hsz⟩ := L.blk
  exact ⟨⟨cs, by rw [hb.block _ (lt_of_block hcs)]; exact hcs, hsz⟩, L.K.below hb, L.T.below hb, L.rel, L.ok, L.hM, L.hR, (hb.cell (p := ⟨Wb, 11, none⟩) (lt_of_block hcs)).trans L.t, (hb.cell (p := ⟨Wb, 12, none⟩) (lt_of_block hcs)).trans L.m, L.gs, L.now, L.WT⟩
theorem LS.up {Wb : Nat} {w : World} {cf : Cf} {M R Tb : Nat} {bk : Bk} {l : List Gr} {dn : Nat → Nat → Bool} {lv tv : Value} {vs : List Value} {N : Nat} (L : LS Wb w cf M R Tb bk l dn lv tv vs N) : LS Wb w cf M R Tb bk l dn lv tv vs (N + 1) :=
  ⟨L.blk, L.K, L.T, L.rel, L.ok, L.hM, L.hR, L.t, L.m, by have := L.gs; omega, by have := L.now; omega, L.WT⟩
/-- a call that is refused -/
theorem LS.same {Wb : Nat} {w w1 w2 : World} {cf : Cf} {M R Tb : Nat} {bk : Bk} {l : List Gr} {dn : Nat → Nat → Bool} {lv tv : Value} {vs : List Value} {N : Nat} (L : LS Wb w cf M R Tb bk l dn lv tv vs N) (hS : Stands Wb Tb 0 cf w bk w1) (hb : Below w1.heap.size w1 w2) : LH Wb cf M R Tb (N + 1) w2 ∧ Below Wb w w2 ∧ Fc Wb w w2 := by
  obtain ⟨h1, h2, ⟨tv', vs', h3⟩, ⟨h4, h4m⟩, h5, h6⟩ := L.stands hS
  have L1 : LS Wb w1 cf M R Tb bk l dn lv tv' vs' N := ⟨h1, h2, h3, L.rel, L.ok, L.hM, L.hR, h4, h4m, L.gs, L.now, L.WT⟩
  obtain ⟨cs, hcs, _⟩ := h1
  exact ⟨⟨_, _, _, _, _, _, (L1.below hb).up⟩, h6.trans (hb.mono (Nat.le_of_lt (lt_of_block hcs))), h5.trans (Fc.of_below hb)⟩
end Go.Proofs.YtibofakbhgmhiabGreatDoor

namespace Go.Proofs.YtibofakbhgmhiabGreatDoor
open Go.RowKit Go.MuLone

theorem LS.hN {Wb : Nat} {w : World} {cf : Cf} {M R Tb : Nat} {bk : Bk} {l : List Gr} {dn : Nat → Nat → Bool} {lv tv : Value} {vs : List Value} {N : Nat} (L : LS Wb w cf M R Tb bk l dn lv tv vs N) : ∀ g ∈ l, g.hd ≤ bk.now := L.rel.hd

/-- behind a request: what is left, asked twice -/
theorem twoLeft {Wb : Nat} {w1 : World} {cf : Cf} {l : List Gr} {dn : Nat → Nat → Bool} {now : Nat} {lv : Value} (K : KB Wb w1 cf l dn now lv) (M R : Nat) (hM : cf.maps = (M : Int)) (hR : cf.reds = (R : Int)) (hM2 : M ≤ 16) (hR2 : R ≤ 16) (x0 x1 x2 : Int) (x3 : Bool) (P : World → Prop) (hP : ∀ w3, Below w1.heap.size w1 w3 → w3.heap[w1.heap.size]? = some (.cells #[.int .i64 x0, .int .i64 x1, .int .i64 x2, .bool x3] 50 (0, 0)) → (∀ k, w3.cell? ⟨w1.heap.size, k, none⟩ = #[Value.int .i64 x0, .int .i64 x1, .int .i64 x2, .bool x3][k]?) → P w3) :
    Calls Tryz.prog 78 #[.pointer (some ⟨Wb, 13, none⟩), .int .i64 1] (w1.alloc (.cells #[.int .i64 x0, .int .i64 x1, .int .i64 x2, .bool x3] 50)) fun e w2 => e = .returned (.int .i64 (leftOf dn 1 M)) ∧ Calls Tryz.prog 78 #[.pointer (some ⟨Wb, 13, none⟩), .int .i64 2] w2 fun e w3 => e = .returned (.int .i64 (leftOf dn 2 R)) ∧ P w3 := by
  have hb1 : Below w1.heap.size w1 (w1.alloc (.cells #[.int .i64 x0, .int .i64 x1, .int .i64 x2, .bool x3] 50)) := (Below.refl _ _).alloc (Nat.le_refl _) _
  refine (left (K.below hb1) M R hM hR hM2 hR2 1 (.inl rfl)).mono ?_
  rintro e w2 ⟨rfl, hb2⟩
  have hb3 := hb1.trans (hb2.mono (by simp))
  refine ⟨rfl, (left (K.below hb3) M R hM hR hM2 hR2 2 (.inr rfl)).mono ?_⟩
  rintro e w3 ⟨rfl, hb4⟩
  have hs := hb2.size
  simp at hs
  refine ⟨rfl, hP w3 (hb3.trans (hb4.mono hb3.size)) (by rw [hb4.block _ (by omega), hb2.block _ (by simp)]; exact alloc_at w1 _) (fun k => ?_)⟩
  rw [hb4.cell (p := ⟨w1.heap.size, k, none⟩) (by show w1.heap.size < w2.heap.size; omega), hb2.cell (p := ⟨w1.heap.size, k, none⟩) (by simp), World.cell?_alloc_at _ _ _ _ (by simp)]

set_option maxHeartbeats 1000000 in
set_option maxRecDepth 100000 in
theorem wReqA {Wb : Nat} {w : World} {cf : Cf} {M R Tb : Nat} {bk : Bk} {l : List Gr} {dn : Nat → Nat → Bool} {lv tv : Value} {vs : List Value} {N : Nat} (L : LS Wb w cf M R Tb bk l dn lv tv vs N) (a : Nat → Addr) (S : SL Wb w a) (hN : N ≤ 1048576) (hf : bk.fl = true) :
    Calls Tryz.prog 40 #[.pointer (some ⟨Wb, 0, none⟩)] w fun e w' => e = .returned (.bool true) ∧ LH Wb cf M R Tb (N + 1) w' ∧ Below Wb w w' ∧ Fc Wb w w' := by
  obtain ⟨hM, hR, b1, b2, b3, b4, b5, b6⟩ := L.bounds hN
  have c11 := L.t
  have HQ : Hid (Calls Tryz.prog 13 #[.pointer (some ⟨Tb, 0, none⟩)] w fun e w1 => e = .returned (.tuple #[.agg #[.int .i64 0, .int .i64 0, .int .i64 0, .bool false], .int .i64 10]) ∧ Calls Tryz.prog 78 #[.pointer (some ⟨Wb, 13, none⟩), .int .i64 1] (w1.alloc (.cells #[.int .i64 0, .int .i64 0, .int .i64 0, .bool false] 50)) fun e w2 => e = .returned (.int .i64 (leftOf dn 1 M)) ∧ Calls Tryz.prog 78 #[.pointer (some ⟨Wb, 13, none⟩), .int .i64 2] w2 fun e w3 => e = .returned (.int .i64 (leftOf dn 2 R)) ∧ (w3.cell? ⟨w1.heap.size, 0, none⟩ = some (.int .i64 0) ∧ w3.cell? ⟨w1.heap.size, 1, none⟩ = some (.int .i64 0) ∧ w3.cell? ⟨w1.heap.size, 2, none⟩ = some (.int .i64 0) ∧ w3.cell? ⟨w1.heap.size, 3, none⟩ = some (.bool false)) ∧ Calls Tryz.prog 80 #[.pointer (some ⟨Wb, 13, none⟩)] w3 fun e w4 => e = .returned (.bool true) ∧ Hid (LH Wb cf M R Tb (N + 1) w4 ∧ Below Wb w w4 ∧ Fc Wb w w4)) := by
    refine (pReqA L.T L.WT a S (by omega) b2 b3 b4 hf).mono ?_
    rintro e w1 ⟨rfl, hS⟩
    obtain ⟨_, K1, _, _, _, _⟩ := L.stands hS
    refine ⟨rfl, twoLeft K1 M R L.hM L.hR hM.2 hR.2 0 0 0 false _ (fun w3 hb3 _ hg => ⟨⟨hg 0, hg 1, hg 2, hg 3⟩, ?_⟩)⟩
    obtain ⟨k, hk, hid, hatt⟩ := L.rel.lost hf
    obtain ⟨d1, d2, d3⟩ := L.rel.done hM.2 hR.2 k hk
    have hph := L.rel.ph
    simp only [Tk.idle, Bool.and_eq_true, beq_iff_eq] at hid
    refine (lost (K1.below hb3) b5 b6 L.rel.hd bk.ph k (by omega) d2 (by rw [d3]; simpa using hid.1) (by rw [L.rel.nlive k hk]; exact hid.2) (by rw [← L.rel.gr k hk]; exact hatt)).mono ?_
    rintro e w4 ⟨rfl, hb4⟩
    exact ⟨rfl, L.same hS (hb3.trans (hb4.mono hb3.size))⟩
  clear L S b3 b4
  generalize leftOf dn 1 M = l1 at *
  generalize leftOf dn 2 R = l2 at *
  go_enter Tryz.func40, Tryz.ntmps40
  go_wp2_with (first | (go_at_call 13; refine HQ.out.mono ?_; rintro e w1 ⟨rfl, HA⟩) | (go_at_call 78; first | (refine HB.mono ?_; rintro e w3 ⟨rfl, ⟨g0, g1, g2, g3⟩, HC⟩) | (refine HA.mono ?_; rintro e w2 ⟨rfl, HB⟩)) | (go_at_call 80; refine HC.mono ?_; rintro e w4 ⟨rfl, hfin⟩))
  go_ret
  exact ⟨rfl, hfin.out⟩

set_option maxHeartbeats 1000000 in
set_option maxRecDepth 100000 in
theorem wReqB {Wb : Nat} {w : World} {cf : Cf} {M R Tb : Nat} {bk : Bk} {l : List Gr} {dn : Nat → Nat → Bool} {lv tv : Value} {vs : List Value} {N : Nat} (L : LS Wb w cf M R Tb bk l dn lv tv vs N) (a : Nat → Addr) (S : SL Wb w a) (hN : N ≤ 1048576) (hf : bk.fl = false) (hp : bk.ph = 3) :
    Calls Tryz.prog 40 #[.pointer (some ⟨Wb, 0, none⟩)] w fun e w' => e = .returned (.bool true) ∧ LH Wb cf M R Tb (N + 1) w' ∧ Below Wb w w' ∧ Fc Wb w w' := by
  obtain ⟨hM, hR, b1, b2, b3, b4, b5, b6⟩ := L.bounds hN
  have c11 := L.t
  have e1 : leftOf dn 1 M = 0 := by rcases L.rel.left1 hM.2 with ⟨h, _⟩ | ⟨_, h⟩; omega; exact h
  have e2 : leftOf dn 2 R = 0 := by rcases L.rel.left2 hR with ⟨h, _⟩ | ⟨_, h⟩; omega; exact h
  have HQ : Hid (Calls Tryz.prog 13 #[.pointer (some ⟨Tb, 0, none⟩)] w fun e w1 => e = .returned (.tuple #[.agg #[.int .i64 0, .int .i64 0, .int .i64 0, .bool false], .int .i64 9]) ∧ Calls Tryz.prog 78 #[.pointer (some ⟨Wb, 13, none⟩), .int .i64 1] (w1.alloc (.cells #[.int .i64 0, .int .i64 0, .int .i64 0, .bool false] 50)) fun e w2 => e = .returned (.int .i64 (leftOf dn 1 M)) ∧ Calls Tryz.prog 78 #[.pointer (some ⟨Wb, 13, none⟩), .int .i64 2] w2 fun e w3 => e = .returned (.int .i64 (leftOf dn 2 R)) ∧ (w3.cell? ⟨w1.heap.size, 0, none⟩ = some (.int .i64 0) ∧ w3.cell? ⟨w1.heap.size, 1, none⟩ = some (.int .i64 0) ∧ w3.cell? ⟨w1.heap.size, 2, none⟩ = some (.int .i64 0) ∧ w3.cell? ⟨w1.heap.size, 3, none⟩ = some (.bool false)) ∧ Hid (LH Wb cf M R Tb (N + 1) w3 ∧ Below Wb w w3 ∧ Fc Wb w w3)) := by
    refine (pReqB L.T L.WT a S (by omega) b2 b3 b4 hf hp).mono ?_
    rintro e w1 ⟨rfl, hS⟩
    obtain ⟨_, K1, _, _, _, _⟩ := L.stands hS
    exact ⟨rfl, twoLeft K1 M R L.hM L.hR hM.2 hR.2 0 0 0 false _ (fun w3 hb3 _ hg => ⟨⟨hg 0, hg 1, hg 2, hg 3⟩, L.same hS hb3⟩)⟩
  rw [e1, e2] at HQ
  clear L S b3 b4 e1 e2
  go_enter Tryz.func40, Tryz.ntmps40
  go_wp2_with (first | (go_at_call 13; refine HQ.out.mono ?_; rintro e w1 ⟨rfl, HA⟩) | (go_at_call 78; first | (refine HB.mono ?_; rintro e w3 ⟨rfl, ⟨g0, g1, g2, g3⟩, hfin⟩) | (refine HA.mono ?_; rintro e w2 ⟨rfl, HB⟩)))
  go_ret
  exact ⟨rfl, hfin.out⟩
end Go.Proofs.YtibofakbhgmhiabGreatDoor

namespace Go.Proofs.YtibofakbhgmhiabGreatDoor
open Go.RowKit Go.MuLone

theorem Tryz.infoKgr : (Tryz.prog.info? 112).map (fun i => (i.zero, i.size, i.bytes)) = some (some (.agg #[.int .i64 0, .int .i64 0, .bool false, .bool false, .int .i64 0]), 5, 32) := by kernel_rfl

/-- what is known behind a grant at task k, phase 1 -/
structure Gd1 (Wb G : Nat) (cf : Cf) (gs k : Nat) (b : Bool) (now : Nat) (la : Option Addr) (lc M R : Nat) (W : World) : Prop where
  gb : W.heap[G]? = some (.cells #[.int .i64 ((gs : Int) + 1), .int .i64 k, .int .i64 1, .bool b] 50 (0, 0))
  c13 : W.cell? ⟨Wb, 13, none⟩ = some (.int .i64 M)
  c14 : W.cell? ⟨Wb, 14, none⟩ = some (.int .i64 R)
  c16 : W.cell? ⟨Wb, 16, none⟩ = some (.int .i64 cf.att)
  c17 : W.cell? ⟨Wb, 17, none⟩ = some (.int .i64 cf.bck)
  c21 : W.cell? ⟨Wb, 21, none⟩ = some (.slice la gs lc)
  c70 : W.cell? ⟨Wb, 70, none⟩ = some (.int .i64 now)
  fz : W.frozen? ⟨Wb, 21, none⟩ = false
theorem Gd1.cells {Wb G : Nat} {cf : Cf} {gs k : Nat} {b : Bool} {now : Nat} {la : Option Addr} {lc M R : Nat} {W : World} (h : Gd1 Wb G cf gs k b now la lc M R W) : W.cell? ⟨G, 0, none⟩ = some (.int .i64 ((gs : Int) + 1)) ∧ W.cell? ⟨G, 1, none⟩ = some (.int .i64 k) ∧ W.cell? ⟨G, 2, none⟩ = some (.int .i64 1) ∧ W.cell? ⟨G, 3, none⟩ = some (.bool b) := by simp [World.cell?, h.gb]
theorem Gd1.below {Wb G : Nat} {cf : Cf} {gs k : Nat} {b : Bool} {now : Nat} {la : Option Addr} {lc M R : Nat} {W W' : World} (h : Gd1 Wb G cf gs k b now la lc M R W) (hb : Below W.heap.size W W') : Gd1 Wb G cf gs k b now la lc M R W' :=
  have hG := lt_of_block h.gb
  have hW := hp_lt h.c13
  ⟨by rw [hb.block G hG]; exact h.gb, (hb.cell (p := ⟨Wb, 13, none⟩) hW).trans h.c13, (hb.cell (p := ⟨Wb, 14, none⟩) hW).trans h.c14, (hb.cell (p := ⟨Wb, 16, none⟩) hW).trans h.c16, (hb.cell (p := ⟨Wb, 17, none⟩) hW).trans h.c17, (hb.cell (p := ⟨Wb, 21, none⟩) hW).trans h.c21, (hb.cell (p := ⟨Wb, 70, none⟩) hW).trans h.c70, by have := h.fz; simp only [World.frozen?, hb.block Wb hW] at this ⊢; exact this⟩

/-- what is known behind a grant at task k, phase 2 -/
structure Gd2 (Wb G : Nat) (cf : Cf) (gs k : Nat) (b : Bool) (now : Nat) (la : Option Addr) (lc M R : Nat) (W : World) : Prop where
  gb : W.heap[G]? = some (.cells #[.int .i64 ((gs : Int) + 1), .int .i64 k, .int .i64 2, .bool b] 50 (0, 0))
  c13 : W.cell? ⟨Wb, 13, none⟩ = some (.int .i64 M)
  c14 : W.cell? ⟨Wb, 14, none⟩ = some (.int .i64 R)
  c16 : W.cell? ⟨Wb, 16, none⟩ = some (.int .i64 cf.att)
  c17 : W.cell? ⟨Wb, 17, none⟩ = some (.int .i64 cf.bck)
  c21 : W.cell? ⟨Wb, 21, none⟩ = some (.slice la gs lc)
  c70 : W.cell? ⟨Wb, 70, none⟩ = some (.int .i64 now)
  fz : W.frozen? ⟨Wb, 21, none⟩ = false
theorem Gd2.cells {Wb G : Nat} {cf : Cf} {gs k : Nat} {b : Bool} {now : Nat} {la : Option Addr} {lc M R : Nat} {W : World} (h : Gd2 Wb G cf gs k b now la lc M R W) : W.cell? ⟨G, 0, none⟩ = some (.int .i64 ((gs : Int) + 1)) ∧ W.cell? ⟨G, 1, none⟩ = some (.int .i64 k) ∧ W.cell? ⟨G, 2, none⟩ = some (.int .i64 2) ∧ W.cell? ⟨G, 3, none⟩ = some (.bool b) := by simp [World.cell?, h.gb]
theorem Gd2.below {Wb G : Nat} {cf : Cf} {gs k : Nat} {b : Bool} {now : Nat} {la : Option Addr} {lc M R : Nat} {W W' : World} (h : Gd2 Wb G cf gs k b now la lc M R W) (hb : Below W.heap.size W W') : Gd2 Wb G cf gs k b now la lc M R W' :=
  have hG := lt_of_block h.gb
  have hW := hp_lt h.c13
  ⟨by rw [hb.block G hG]; exact h.gb, (hb.cell (p := ⟨Wb, 13, none⟩) hW).trans h.c13, (hb.cell (p := ⟨Wb, 14, none⟩) hW).trans h.c14, (hb.cell (p := ⟨Wb, 16, none⟩) hW).trans h.c16, (hb.cell (p := ⟨Wb, 17, none⟩) hW).trans h.c17, (hb.cell (p := ⟨Wb, 21, none⟩) hW).trans h.c21, (hb.cell (p := ⟨Wb, 70, none⟩) hW).trans h.c70, by have := h.fz; simp only [World.frozen?, hb.block Wb hW] at this ⊢; exact this⟩

theorem cell_put {Wb j : Nat} {w : World} {cs : Array Value} {e : TypeId} (hblk : w.heap[Wb]? = some (.cells cs e (0, 0))) (hj : j < cs.size) (v : Value) : (w.setCell ⟨Wb, j, none⟩ v).cell? ⟨Wb, j, none⟩ = some v := by
  simp only [World.cell?, put_block hblk]
  simp [hj]
/-- the book takes the grant down -/
theorem LS.take1 {Wb : Nat} {w w1 w5 : World} {cf : Cf} {M R Tb : Nat} {bk : Bk} {l : List Gr} {dn : Nat → Nat → Bool} {lv tv : Value} {vs : List Value} {N : Nat} (L : LS Wb w cf M R Tb bk l dn lv tv vs N) (hp : bk.ph = 1) (hf : bk.fl = false) (k : Nat) (hk : k < bk.ts.length) (hnd : bk.ts[k].done = false) (b : Bool) (hS : Stands Wb Tb 0 cf w (bk.granted k bk.ts[k]) w1) (hb5 : Below w1.heap.size w1 w5) (o : Obj) :
    ((w5.alloc o).drew).ownsRow Wb 112 5 lv bk.gs (gc l) ∧ (∀ w6, ((w5.alloc o).drew).grownBy w6 lv.ownBlock → (w6.cell? ⟨Wb, 21, none⟩ = some lv ∧ w6.frozen? ⟨Wb, 21, none⟩ = false) ∧ w6.cell? ⟨Wb, 70, none⟩ = w5.cell? ⟨Wb, 70, none⟩ ∧ ∀ (G : Nat) (cc : Array Value), w5.heap[G]? = some (.cells cc 50 (0, 0)) → w6.heap[G]? = some (.cells cc 50 (0, 0))) ∧
      (∀ v w6, w6.ownsRow Wb 112 5 v (bk.gs + 1) (gc l ++ [.int .i64 1, .int .i64 k, .bool b, .bool false, .int .i64 bk.now]) → ((w5.alloc o).drew).grownBy w6 lv.ownBlock → LH Wb cf M R Tb (N + 1) (w6.setCell ⟨Wb, 21, none⟩ v) ∧ Below Wb w (w6.setCell ⟨Wb, 21, none⟩ v) ∧ Fc Wb w (w6.setCell ⟨Wb, 21, none⟩ v)) := by
  obtain ⟨⟨cs, h1, hsz⟩, h2, ⟨tv', vs', h3⟩, ⟨h4, h4m⟩, h5, h6⟩ := L.stands hS
  have hW1 := lt_of_block h1
  have hb : Below w1.heap.size w1 ((w5.alloc o).drew) := (hb5.alloc hb5.size o).drew
  have K5 := h2.below hb
  have T5 := h3.below hb
  have e5 : ((w5.alloc o).drew).heap[Wb]? = some (.cells cs 43 (0, 0)) := by rw [hb.block _ hW1]; exact h1
  have t5 := (hb.cell (p := ⟨Wb, 11, none⟩) hW1).trans h4
  have m5 := (hb.cell (p := ⟨Wb, 12, none⟩) hW1).trans h4m
  have hrow := K5.row
  have hgs := L.rel.gs
  rw [hgs] at hrow
  have blk6 : ∀ w6, ((w5.alloc o).drew).grownBy w6 lv.ownBlock → w6.heap[Wb]? = some (.cells cs 43 (0, 0)) := fun w6 hg => by
    rw [hg.block Wb (lt_of_block e5) (fun e => own_ne hrow e5 (by decide) e.symm)]; exact e5
  refine ⟨hrow, fun w6 hg => ?_, fun v w6 ho hg => ?_⟩
  · have e6 := blk6 w6 hg
    have := K5.cl
    have hsz5 := hb5.size
    have e50 : w5.heap[Wb]? = some (.cells cs 43 (0, 0)) := by rw [hb5.block _ hW1]; exact h1
    refine ⟨⟨by simpa only [World.cell?, e6, e5] using this, by simp [World.frozen?, e6]⟩, by simp only [World.cell?, e6, e50], fun G cc hG => ?_⟩
    have hG5 : ((w5.alloc o).drew).heap[G]? = some (.cells cc 50 (0, 0)) := (Below.heap_alloc w5 o G (lt_of_block hG)).trans hG
    rw [hg.block G (lt_of_block hG5) (fun e => own_ne hrow hG5 (by decide) e.symm)]
    exact hG5
  · have e6 := blk6 w6 hg
    have hc : ∀ j, j ≠ 21 → (w6.setCell ⟨Wb, 21, none⟩ v).cell? ⟨Wb, j, none⟩ = ((w5.alloc o).drew).cell? ⟨Wb, j, none⟩ := fun j hj => by
      have e7 := put_block (j := 21) (v := v) e6
      simp only [World.cell?, e7, e5]
      simp [Ne.symm hj]
    have T6 : TbAt Wb Tb 0 cf w6 (bk.granted k bk.ts[k]) tv' vs' := by
      refine ⟨?_, own_heap T5.ts.row (fun i hi => ?_), T5.ts.len, fun i hi hv => own_heap (T5.ts.live i hi hv) (fun q hq => ?_), T5.ts.dis⟩
      · rw [hg.block Tb (lt_of_block T5.blk) (fun e => own_ne hrow T5.blk (by decide) e.symm)]; exact T5.blk
      · exact hg.block i ((T5.ts.row.lt i hi).2) (fun e => by
          rcases rows_ne T5.ts.row hrow (by decide) with h0 | h0
          · rw [h0] at hi; cases hi
          · exact h0 (hi.trans e))
      · exact hg.block q (((T5.ts.live i hi hv).lt q hq).2) (fun e => by
          rcases rows_ne (T5.ts.live i hi hv) hrow (by decide) with h0 | h0
          · rw [h0] at hq; cases hq
          · exact h0 (hq.trans e))
    have hl1 := L.ok.2.2.2.2.2.1.1
    have hrel := L.rel.grant hl1 k hk (by omega) hnd hf b
    have hg1 := L.gs
    have hn1 := L.now
    refine ⟨⟨bk.granted k bk.ts[k], l ++ [⟨bk.ph, k, b, false, bk.now⟩], dn, v, tv', vs', ⟨_, put_block e6, by simpa using hsz⟩, ?_, T6.other e6 (by decide) (by decide) (by decide) v, hrel, L.ok, L.hM, L.hR, (hc 11 (by decide)).trans t5, (hc 12 (by decide)).trans m5, by show bk.gs + 1 ≤ N + 1; omega, by show bk.now ≤ N + 1; omega, L.WT⟩, ?_, ?_⟩
    · refine ⟨(hc 13 (by decide)).trans K5.c0, (hc 14 (by decide)).trans K5.c1, (hc 15 (by decide)).trans K5.c2, (hc 16 (by decide)).trans K5.c3, (hc 17 (by decide)).trans K5.c4, (hc 18 (by decide)).trans K5.c5, (hc 19 (by decide)).trans K5.c6, (hc 20 (by decide)).trans K5.c7, cell_put e6 (by omega) v, ?_, fun q t hq ht => (hc _ (by omega)).trans (K5.cd q t hq ht), (hc 70 (by decide)).trans K5.cn⟩
      have hlen : (l ++ [(⟨bk.ph, k, b, false, bk.now⟩ : Gr)]).length = bk.gs + 1 := by simp [hgs]
      rw [hlen, gc_append, hp]
      exact ownsRow_setCell_other ho (own_ne ho e6 (by decide)) v
    · exact (((h6.trans (hb5.mono (Nat.le_of_lt hW1))).alloc (by have := hb5.size; omega) o).drew.grown hg (by have := hb5.size; simp [World.drew]; omega) (fun q hq => (hrow.lt q hq).1)).setCell (p := ⟨Wb, 21, none⟩) (Nat.le_refl _) v
    · exact ((h5.trans (Fc.of_below hb)).trans (Fc.grown hrow hg)).trans (Fc.put e6 21 (by omega) v)
/-- the book takes the grant down -/
theorem LS.take2 {Wb : Nat} {w w1 w5 : World} {cf : Cf} {M R Tb : Nat} {bk : Bk} {l : List Gr} {dn : Nat → Nat → Bool} {lv tv : Value} {vs : List Value} {N : Nat} (L : LS Wb w cf M R Tb bk l dn lv tv vs N) (hp : bk.ph = 2) (hf : bk.fl = false) (k : Nat) (hk : k < bk.ts.length) (hnd : bk.ts[k].done = false) (b : Bool) (hS : Stands Wb Tb 0 cf w (bk.granted k bk.ts[k]) w1) (hb5 : Below w1.heap.size w1 w5) (o : Obj) :
    ((w5.alloc o).drew).ownsRow Wb 112 5 lv bk.gs (gc l) ∧ (∀ w6, ((w5.alloc o).drew).grownBy w6 lv.ownBlock → (w6.cell? ⟨Wb, 21, none⟩ = some lv ∧ w6.frozen? ⟨Wb, 21, none⟩ = false) ∧ w6.cell? ⟨Wb, 70, none⟩ = w5.cell? ⟨Wb, 70, none⟩ ∧ ∀ (G : Nat) (cc : Array Value), w5.heap[G]? = some (.cells cc 50 (0, 0)) → w6.heap[G]? = some (.cells cc 50 (0, 0))) ∧
      (∀ v w6, w6.ownsRow Wb 112 5 v (bk.gs + 1) (gc l ++ [.int .i64 2, .int .i64 k, .bool b, .bool false, .int .i64 bk.now]) → ((w5.alloc o).drew).grownBy w6 lv.ownBlock → LH Wb cf M R Tb (N + 1) (w6.setCell ⟨Wb, 21, none⟩ v) ∧ Below Wb w (w6.setCell ⟨Wb, 21, none⟩ v) ∧ Fc Wb w (w6.setCell ⟨Wb, 21, none⟩ v)) := by
  obtain ⟨⟨cs, h1, hsz⟩, h2, ⟨tv', vs', h3⟩, ⟨h4, h4m⟩, h5, h6⟩ := L.stands hS
  have hW1 := lt_of_block h1
  have hb : Below w1.heap.size w1 ((w5.alloc o).drew) := (hb5.alloc hb5.size o).drew
  have K5 := h2.below hb
  have T5 := h3.below hb
  have e5 : ((w5.alloc o).drew).heap[Wb]? = some (.cells cs 43 (0, 0)) := by rw [hb.block _ hW1]; exact h1
  have t5 := (hb.cell (p := ⟨Wb, 11, none⟩) hW1).trans h4
  have m5 := (hb.cell (p := ⟨Wb, 12, none⟩) hW1).trans h4m
  have hrow := K5.row
  have hgs := L.rel.gs
  rw [hgs] at hrow
  have blk6 : ∀ w6, ((w5.alloc o).drew).grownBy w6 lv.ownBlock → w6.heap[Wb]? = some (.cells cs 43 (0, 0)) := fun w6 hg => by
    rw [hg.block Wb (lt_of_block e5) (fun e => own_ne hrow e5 (by decide) e.symm)]; exact e5
  refine ⟨hrow, fun w6 hg => ?_, fun v w6 ho hg => ?_⟩
  · have e6 := blk6 w6 hg
    have := K5.cl
    have hsz5 := hb5.size
    have e50 : w5.heap[Wb]? = some (.cells cs 43 (0, 0)) := by rw [hb5.block _ hW1]; exact h1
    refine ⟨⟨by simpa only [World.cell?, e6, e5] using this, by simp [World.frozen?, e6]⟩, by simp only [World.cell?, e6, e50], fun G cc hG => ?_⟩
    have hG5 : ((w5.alloc o).drew).heap[G]? = some (.cells cc 50 (0, 0)) := (Below.heap_alloc w5 o G (lt_of_block hG)).trans hG
    rw [hg.block G (lt_of_block hG5) (fun e => own_ne hrow hG5 (by decide) e.symm)]
    exact hG5
  · have e6 := blk6 w6 hg
    have hc : ∀ j, j ≠ 21 → (w6.setCell ⟨Wb, 21, none⟩ v).cell? ⟨Wb, j, none⟩ = ((w5.alloc o).drew).cell? ⟨Wb, j, none⟩ := fun j hj => by
      have e7 := put_block (j := 21) (v := v) e6
      simp only [World.cell?, e7, e5]
      simp [Ne.symm hj]
    have T6 : TbAt Wb Tb 0 cf w6 (bk.granted k bk.ts[k]) tv' vs' := by
      refine ⟨?_, own_heap T5.ts.row (fun i hi => ?_), T5.ts.len, fun i hi hv => own_heap (T5.ts.live i hi hv) (fun q hq => ?_), T5.ts.dis⟩
      · rw [hg.block Tb (lt_of_block T5.blk) (fun e => own_ne hrow T5.blk (by decide) e.symm)]; exact T5.blk
      · exact hg.block i ((T5.ts.row.lt i hi).2) (fun e => by
          rcases rows_ne T5.ts.row hrow (by decide) with h0 | h0
          · rw [h0] at hi; cases hi
          · exact h0 (hi.trans e))
      · exact hg.block q (((T5.ts.live i hi hv).lt q hq).2) (fun e => by
          rcases rows_ne (T5.ts.live i hi hv) hrow (by decide) with h0 | h0
          · rw [h0] at hq; cases hq
          · exact h0 (hq.trans e))
    have hl1 := L.ok.2.2.2.2.2.1.1
    have hrel := L.rel.grant hl1 k hk (by omega) hnd hf b
    have hg1 := L.gs
    have hn1 := L.now
    refine ⟨⟨bk.granted k bk.ts[k], l ++ [⟨bk.ph, k, b, false, bk.now⟩], dn, v, tv', vs', ⟨_, put_block e6, by simpa using hsz⟩, ?_, T6.other e6 (by decide) (by decide) (by decide) v, hrel, L.ok, L.hM, L.hR, (hc 11 (by decide)).trans t5, (hc 12 (by decide)).trans m5, by show bk.gs + 1 ≤ N + 1; omega, by show bk.now ≤ N + 1; omega, L.WT⟩, ?_, ?_⟩
    · refine ⟨(hc 13 (by decide)).trans K5.c0, (hc 14 (by decide)).trans K5.c1, (hc 15 (by decide)).trans K5.c2, (hc 16 (by decide)).trans K5.c3, (hc 17 (by decide)).trans K5.c4, (hc 18 (by decide)).trans K5.c5, (hc 19 (by decide)).trans K5.c6, (hc 20 (by decide)).trans K5.c7, cell_put e6 (by omega) v, ?_, fun q t hq ht => (hc _ (by omega)).trans (K5.cd q t hq ht), (hc 70 (by decide)).trans K5.cn⟩
      have hlen : (l ++ [(⟨bk.ph, k, b, false, bk.now⟩ : Gr)]).length = bk.gs + 1 := by simp [hgs]
      rw [hlen, gc_append, hp]
      exact ownsRow_setCell_other ho (own_ne ho e6 (by decide)) v
    · exact (((h6.trans (hb5.mono (Nat.le_of_lt hW1))).alloc (by have := hb5.size; omega) o).drew.grown hg (by have := hb5.size; simp [World.drew]; omega) (fun q hq => (hrow.lt q hq).1)).setCell (p := ⟨Wb, 21, none⟩) (Nat.le_refl _) v
    · exact ((h5.trans (Fc.of_below hb)).trans (Fc.grown hrow hg)).trans (Fc.put e6 21 (by omega) v)
end Go.Proofs.YtibofakbhgmhiabGreatDoor

namespace Go.Proofs.YtibofakbhgmhiabGreatDoor
open Go.RowKit Go.MuLone

theorem gc_set3 : ∀ (l : List Gr) (i : Nat) (h : i < l.length), (gc l).set (i * 5 + 3) (.bool true) = gc (l.set i l[i].gone)
  | a :: l, 0, _ => by simp [gc, Gr.gone]
  | a :: l, i + 1, h => by
    have := gc_set3 l i (by simpa using h)
    rw [show (i + 1) * 5 = i * 5 + 5 from by omega]
    simpa [gc] using this
theorem gc_set4 : ∀ (l : List Gr) (i : Nat) (h : i < l.length) (x : Nat), (gc l).set (i * 5 + 4) (.int .i64 x) = gc (l.set i (l[i].heard x))
  | a :: l, 0, _, x => by simp [gc, Gr.heard]
  | a :: l, i + 1, h, x => by
    have := gc_set4 l i (by simpa using h) x
    rw [show (i + 1) * 5 = i * 5 + 5 from by omega]
    simpa [gc] using this
/-- the row's block -/
theorem KB.gblk {Wb : Nat} {w : World} {cf : Cf} {l : List Gr} {dn : Nat → Nat → Bool} {now g n c : Nat} (K : KB Wb w cf l dn now (.slice (some ⟨g, 0, none⟩) n c)) : ∃ cur, w.heap[g]? = some (.cells cur 112 (0, 0)) ∧ Wb ≤ g := by
  rcases K.row.2 with ⟨hn, _⟩ | ⟨g', cap', cur, hv, hb, hg, _⟩
  · cases hn
  · simp only [Value.slice.injEq, Option.some.injEq, Addr.mk.injEq] at hv
    obtain ⟨⟨rfl, _, _⟩, _, rfl⟩ := hv
    exact ⟨cur, hg, hb⟩
/-- a cell of the row is written -/
theorem KB.put {Wb : Nat} {w : World} {cf : Cf} {l l' : List Gr} {dn : Nat → Nat → Bool} {now g n c : Nat} (K : KB Wb w cf l dn now (.slice (some ⟨g, 0, none⟩) n c)) {cs : Array Value} (hblk : w.heap[Wb]? = some (.cells cs 43 (0, 0))) (pos : Nat) (v : Value) (hset : (gc l).set pos v = gc l') (hlen : l'.length = l.length) : KB Wb (w.setCell ⟨g, pos, none⟩ v) cf l' dn now (.slice (some ⟨g, 0, none⟩) n c) := by
  obtain ⟨cur, hg, hB⟩ := K.gblk
  have hne : Wb ≠ g := by rintro rfl; rw [hblk] at hg; simp at hg
  have hc : ∀ j, (w.setCell ⟨g, pos, none⟩ v).cell? ⟨Wb, j, none⟩ = w.cell? ⟨Wb, j, none⟩ := fun j => by
    simp only [World.cell?, Below.heap_setCell w ⟨g, pos, none⟩ v Wb hne]
  have hr := K.row
  have hn : n = l.length := by obtain ⟨ao, cc, e⟩ := hown_slice hr; simp only [Value.slice.injEq] at e; exact e.2.1
  subst hn
  have hr2 := (hr.stored pos v).1
  rw [hset] at hr2
  rw [← hlen] at hr2
  refine ⟨(hc _).trans K.c0, (hc _).trans K.c1, (hc _).trans K.c2, (hc _).trans K.c3, (hc _).trans K.c4, (hc _).trans K.c5, (hc _).trans K.c6, (hc _).trans K.c7, (hc _).trans K.cl, ?_, fun p t hp ht => (hc _).trans (K.cd p t hp ht), (hc _).trans K.cn⟩
  rw [hlen] at hr2 ⊢
  exact hr2

/-- refused: as the book has it -/
theorem no_fits {cf : Cf} {M R : Nat} {bk : Bk} {l : List Gr} {dn : Nat → Nat → Bool} (h : Rel cf M R bk l dn) {a : Nat → Addr} {w : World} (S : Sents w a) {id n : Int} {e : Ending} (hno : bk.no id (a 5) (a 6) e) (hn : errN a e n) : fitsR cf l bk.now id n ∧ n ≠ 0 := by
  rcases hno with ⟨hr, rfl⟩ | ⟨hr, hh, rfl⟩
  · have := errN_at S (by omega) hn
    subst this
    exact ⟨.inl ⟨by rw [h.gs]; exact hr, rfl⟩, by decide⟩
  · have := errN_at S (by omega) hn
    subst this
    refine ⟨.inr ⟨(id - 1).toNat, by rw [h.gs]; omega, by omega, .inr ⟨?_, rfl⟩⟩, by decide⟩
    cases hc : (l[(id - 1).toNat]'(by rw [h.gs]; omega)).cnt cf.lease bk.now with
    | false => rfl
    | true =>
      obtain ⟨k, i, hki⟩ := h.find (by rw [h.gs]; omega) hc
      have e : (((id - 1).toNat : Nat) : Int) + 1 = id := by omega
      rw [e] at hki
      exact absurd hki (hh k i)
/-- taken: as the book has it -/
theorem has_fits {cf : Cf} {M R : Nat} {bk : Bk} {l : List Gr} {dn : Nat → Nat → Bool} (h : Rel cf M R bk l dn) {id : Int} {k i : Nat} (hh : bk.has id k i) : fitsR cf l bk.now id 0 := by
  obtain ⟨j, hj, e1, _, _, e4⟩ := h.found hh
  exact .inr ⟨j, hj, e1, .inl ⟨e4, rfl⟩⟩

/-- the table has done something, and the book follows with one cell -/
theorem LS.upd {Wb : Nat} {w w1 W : World} {cf : Cf} {M R Tb : Nat} {bk bk' : Bk} {l l' : List Gr} {dn : Nat → Nat → Bool} {tv : Value} {vs : List Value} {N g n c : Nat} (L : LS Wb w cf M R Tb bk l dn (.slice (some ⟨g, 0, none⟩) n c) tv vs N) (hS : Stands Wb Tb 0 cf w bk' w1) (hb : Below w1.heap.size w1 W) (pos : Nat) (v : Value) (hset : (gc l).set pos v = gc l') (hlen : l'.length = l.length) (hrel : Rel cf M R bk' l' dn) (hnow : bk'.now = bk.now) (hgs : bk'.gs = bk.gs) :
    LH Wb cf M R Tb (N + 1) (W.setCell ⟨g, pos, none⟩ v) ∧ Below Wb w (W.setCell ⟨g, pos, none⟩ v) ∧ Fc Wb w (W.setCell ⟨g, pos, none⟩ v) := by
  obtain ⟨⟨cs, h1, hsz⟩, h2, ⟨tv', vs', h3⟩, ⟨h4, h4m⟩, h5, h6⟩ := L.stands hS
  have hW1 := lt_of_block h1
  have e5 : W.heap[Wb]? = some (.cells cs 43 (0, 0)) := by rw [hb.block _ hW1]; exact h1
  have K5 := h2.below hb
  have T5 := h3.below hb
  obtain ⟨cur, hg, hB⟩ := K5.gblk
  have hne : Wb ≠ g := by rintro rfl; rw [e5] at hg; simp at hg
  have hc : ∀ j, (W.setCell ⟨g, pos, none⟩ v).cell? ⟨Wb, j, none⟩ = W.cell? ⟨Wb, j, none⟩ := fun j => by
    simp only [World.cell?, Below.heap_setCell W ⟨g, pos, none⟩ v Wb hne]
  have hg1 := L.gs
  have hn1 := L.now
  refine ⟨⟨bk', l', dn, .slice (some ⟨g, 0, none⟩) n c, tv', vs', ⟨cs, by rw [Below.heap_setCell W ⟨g, pos, none⟩ v Wb hne]; exact e5, hsz⟩, ?_, T5.other hg (by decide) (by decide) (by decide) v, hrel, L.ok, L.hM, L.hR, (hc 11).trans ((hb.cell (p := ⟨Wb, 11, none⟩) hW1).trans h4), (hc 12).trans ((hb.cell (p := ⟨Wb, 12, none⟩) hW1).trans h4m), by omega, by omega, L.WT⟩, ?_, ?_⟩
  · rw [hnow]; exact K5.put e5 pos v hset hlen
  · exact (h6.trans (hb.mono (Nat.le_of_lt hW1))).setCell (p := ⟨g, pos, none⟩) hB v
  · exact (h5.trans (Fc.of_below hb)).trans (Fc.gset hg pos v)
end Go.Proofs.YtibofakbhgmhiabGreatDoor

namespace Go.Proofs.YtibofakbhgmhiabGreatDoor
open Go.RowKit Go.MuLone

def pk6 (c : Int) : Nat := ((if c < 0 then -(c + 1) else c) % 6).toNat
theorem pk6_lt (c : Int) : pk6 c < 6 := by unfold pk6; omega
theorem pick6 (c : Int) (w : World) (h1 : -9223372036854775808 ≤ c) (h2 : c ≤ 9223372036854775807) :
    Calls Tryz.prog 19 #[.int .i64 c, .int .i64 6] w fun e w' => e = .returned (.int .i64 (pk6 c)) ∧ w' = w := by
  by_cases hc : c < 0
  · have e : ((pk6 c : Nat) : Int) = -(c + 1).tmod 6 := by
      unfold pk6; rw [if_pos hc]
      obtain ⟨n, hn⟩ : ∃ n : Int, n = -(c + 1) := ⟨_, rfl⟩
      rw [← hn, show c + 1 = -n by omega, Int.neg_tmod, Int.neg_neg, Int.tmod_eq_emod_of_nonneg (by omega)]
      omega
    rw [e]
    go_enter Tryz.func19, Tryz.ntmps19
    go_wp2
    go_ret
    exact ⟨rfl, rfl⟩
  · have e : ((pk6 c : Nat) : Int) = c % 6 := by unfold pk6; rw [if_neg hc]; omega
    rw [e]
    have hc' : 0 ≤ c := by omega
    go_enter Tryz.func19, Tryz.ntmps19
    go_wp2
    go_ret
    exact ⟨rfl, rfl⟩

/-- what a call about an attempt comes to -/
def Fin (Wb : Nat) (cf : Cf) (M R Tb N : Nat) (w w' : World) : Prop := LH Wb cf M R Tb (N + 1) w' ∧ Below Wb w w' ∧ Fc Wb w w'
theorem LS.op {Wb : Nat} {w : World} {cf : Cf} {M R Tb : Nat} {bk : Bk} {l : List Gr} {dn : Nat → Nat → Bool} {lv tv : Value} {vs : List Value} {N : Nat} (L : LS Wb w cf M R Tb bk l dn lv tv vs N) (o : Obj) : LS Wb ((w.alloc o).drew) cf M R Tb bk l dn lv tv vs N ∧ Below Wb w ((w.alloc o).drew) ∧ Fc Wb w ((w.alloc o).drew) := by
  have hb : Below w.heap.size w ((w.alloc o).drew) := ((Below.refl _ _).alloc (Nat.le_refl _) o).drew
  obtain ⟨cs, hcs, _⟩ := L.blk
  exact ⟨L.below hb, hb.mono (Nat.le_of_lt (lt_of_block hcs)), Fc.of_below hb⟩
theorem beq_cast (x j : Nat) : ((x : Int) == (j : Int) + 1) = (x == j + 1) := by rw [Bool.eq_iff_iff, beq_iff_eq, beq_iff_eq]; omega
theorem op_cells {w w1 : World} (A B C : Int) (s t : ByteArray) (ht : Tf ((w.alloc (.cells #[.int .i64 9, .int .i64 A, .int .i64 B, .int .i64 C, .string s, .string t] 45)).drew) w1) : w1.heap[w.heap.size]? = some (.cells #[.int .i64 9, .int .i64 A, .int .i64 B, .int .i64 C, .string s, .string t] 45 (0, 0)) :=
  ht.block _ _ _ _ (alloc_at w _) (by decide) (by decide) (by decide)

end Go.Proofs.YtibofakbhgmhiabGreatDoor

namespace Go.Proofs.YtibofakbhgmhiabGreatDoor
open Go.RowKit Go.MuLone

/-- the first i are gone over -/
def mapTo (f : Gr → Gr) (l : List Gr) (i : Nat) : List Gr := (l.take i).map f ++ l.drop i
theorem mapTo_zero (f : Gr → Gr) (l : List Gr) : mapTo f l 0 = l := by simp [mapTo]
theorem mapTo_all (f : Gr → Gr) (l : List Gr) : mapTo f l l.length = l.map f := by simp [mapTo]
theorem mapTo_length (f : Gr → Gr) (l : List Gr) (i : Nat) : (mapTo f l i).length = l.length := by
  by_cases h : i ≤ l.length
  · simp [mapTo]; omega
  · simp [mapTo]; omega
theorem mapTo_at (f : Gr → Gr) (l : List Gr) (i : Nat) (hi : i < l.length) (h : i < (mapTo f l i).length) : (mapTo f l i)[i] = l[i] := by
  have hl : ((l.take i).map f).length = i := by simp; omega
  have e : (mapTo f l i)[i]? = some l[i] := by
    unfold mapTo
    rw [List.getElem?_append_right (by omega), hl, Nat.sub_self, List.drop_eq_getElem_cons hi]
    rfl
  rw [List.getElem?_eq_getElem h] at e
  exact Option.some.inj e
theorem mapTo_succ (f : Gr → Gr) (l : List Gr) (i : Nat) (hi : i < l.length) : (mapTo f l i).set i (f l[i]) = mapTo f l (i + 1) := by
  have hl : ((l.take i).map f).length = i := by simp; omega
  unfold mapTo
  rw [List.set_append_right _ _ (by omega), hl, Nat.sub_self, List.drop_eq_getElem_cons hi, List.set_cons_zero, List.take_succ_eq_append_getElem hi, List.map_append, List.append_assoc]
  rfl
theorem mapTo_skip (f : Gr → Gr) (l : List Gr) (i : Nat) (hi : i < l.length) (h : f l[i] = l[i]) : mapTo f l (i + 1) = mapTo f l i := by
  rw [← mapTo_succ f l i hi, h]
  have hl := mapTo_length f l i
  have := mapTo_at f l i hi (by omega)
  conv => lhs; rw [← this]
  simp

theorem ended_now (bk : Bk) (R : Nat) : (bk.ended R).now = bk.now := by unfold Bk.ended; split <;> (try split) <;> rfl
theorem ended_gs (bk : Bk) (R : Nat) : (bk.ended R).gs = bk.gs := by unfold Bk.ended; split <;> (try split) <;> rfl
/-- the world while the book is written -/
structure CI (Wb : Nat) (lv : Value) (cf : Cf) (l : List Gr) (dn : Nat → Nat → Bool) (now Tb : Nat) (bk' : Bk) (w wr : World) : Prop where
  blk : ∃ cs, wr.heap[Wb]? = some (.cells cs 43 (0, 0)) ∧ cs.size = 71
  K : KB Wb wr cf l dn now lv
  T : ∃ tv vs, TbAt Wb Tb 0 cf wr bk' tv vs
  t : wr.cell? ⟨Wb, 11, none⟩ = some (.pointer (some ⟨Tb, 0, none⟩))
  m : wr.cell? ⟨Wb, 12, none⟩ = some (.bool true)
  low : Below Wb w wr
  fc : Fc Wb w wr
theorem CI.below {Wb : Nat} {lv : Value} {cf : Cf} {l : List Gr} {dn : Nat → Nat → Bool} {now Tb : Nat} {bk' : Bk} {w wr W : World} (h : CI Wb lv cf l dn now Tb bk' w wr) (hb : Below wr.heap.size wr W) : CI Wb lv cf l dn now Tb bk' w W := by
  obtain ⟨cs, hcs, hsz⟩ := h.blk
  have hl := lt_of_block hcs
  obtain ⟨tv, vs, hT⟩ := h.T
  exact ⟨⟨cs, by rw [hb.block _ hl]; exact hcs, hsz⟩, h.K.below hb, ⟨tv, vs, hT.below hb⟩, (hb.cell (p := ⟨Wb, 11, none⟩) hl).trans h.t, (hb.cell (p := ⟨Wb, 12, none⟩) hl).trans h.m, h.low.trans (hb.mono (Nat.le_of_lt hl)), h.fc.trans (Fc.of_below hb)⟩
theorem CI.of {Wb : Nat} {w w0 w1 W : World} {cf : Cf} {M R Tb : Nat} {bk bk' : Bk} {l : List Gr} {dn : Nat → Nat → Bool} {tv : Value} {vs : List Value} {lv : Value} {N : Nat} (L : LS Wb w0 cf M R Tb bk l dn lv tv vs N) (hS : Stands Wb Tb 0 cf w0 bk' w1) (hb : Below w1.heap.size w1 W) (lb0 : Below Wb w w0) (lf0 : Fc Wb w w0) : CI Wb lv cf l dn bk.now Tb bk' w W := by
  obtain ⟨h1, h2, h3, ⟨h4, h4m⟩, h5, h6⟩ := L.stands hS
  exact CI.below ⟨h1, h2, h3, h4, h4m, lb0.trans h6, lf0.trans h5⟩ hb
/-- a cell of what was granted -/
theorem CI.put {Wb g n c : Nat} {cf : Cf} {l l' : List Gr} {dn : Nat → Nat → Bool} {now Tb : Nat} {bk' : Bk} {w wr : World} (h : CI Wb (.slice (some ⟨g, 0, none⟩) n c) cf l dn now Tb bk' w wr) (pos : Nat) (v : Value) (hset : (gc l).set pos v = gc l') (hlen : l'.length = l.length) : CI Wb (.slice (some ⟨g, 0, none⟩) n c) cf l' dn now Tb bk' w (wr.setCell ⟨g, pos, none⟩ v) := by
  obtain ⟨cs, hcs, hsz⟩ := h.blk
  obtain ⟨cur, hg, hB⟩ := h.K.gblk
  obtain ⟨tv, vs, hT⟩ := h.T
  have hne : Wb ≠ g := by rintro rfl; rw [hcs] at hg; simp at hg
  have hc : ∀ j, (wr.setCell ⟨g, pos, none⟩ v).cell? ⟨Wb, j, none⟩ = wr.cell? ⟨Wb, j, none⟩ := fun j => by
    simp only [World.cell?, Below.heap_setCell wr ⟨g, pos, none⟩ v Wb hne]
  exact ⟨⟨cs, by rw [Below.heap_setCell wr ⟨g, pos, none⟩ v Wb hne]; exact hcs, hsz⟩, h.K.put hcs pos v hset hlen, ⟨tv, vs, hT.other hg (by decide) (by decide) (by decide) v⟩, (hc 11).trans h.t, (hc 12).trans h.m, h.low.setCell (p := ⟨g, pos, none⟩) hB v, h.fc.trans (Fc.gset hg pos v)⟩
/-- a cell of the world's own block -/
theorem CI.own {Wb : Nat} {lv : Value} {cf : Cf} {l : List Gr} {dn dn' : Nat → Nat → Bool} {now now' Tb : Nat} {bk' : Bk} {w wr : World} (h : CI Wb lv cf l dn now Tb bk' w wr) (j : Nat) (hj : 22 ≤ j) (hj2 : j < 71) (v : Value) (hd : ∀ p t, p < 3 → t < 16 → (22 + p * 16 + t ≠ j ∧ dn' p t = dn p t) ∨ (22 + p * 16 + t = j ∧ v = .bool (dn' p t))) (hn : (j ≠ 70 ∧ now' = now) ∨ (j = 70 ∧ v = .int .i64 now')) : CI Wb lv cf l dn' now' Tb bk' w (wr.setCell ⟨Wb, j, none⟩ v) := by
  obtain ⟨cs, hcs, hsz⟩ := h.blk
  obtain ⟨tv, vs, hT⟩ := h.T
  have e7 := put_block (j := j) (v := v) hcs
  have hc : ∀ i, i ≠ j → (wr.setCell ⟨Wb, j, none⟩ v).cell? ⟨Wb, i, none⟩ = wr.cell? ⟨Wb, i, none⟩ := fun i hi => by
    simp only [World.cell?, e7, hcs]
    simp [Ne.symm hi]
  have hs : (wr.setCell ⟨Wb, j, none⟩ v).cell? ⟨Wb, j, none⟩ = some v := cell_put hcs (by omega) v
  have K := h.K
  refine ⟨⟨_, e7, by simpa using hsz⟩, ⟨(hc _ (by omega)).trans K.c0, (hc _ (by omega)).trans K.c1, (hc _ (by omega)).trans K.c2, (hc _ (by omega)).trans K.c3, (hc _ (by omega)).trans K.c4, (hc _ (by omega)).trans K.c5, (hc _ (by omega)).trans K.c6, (hc _ (by omega)).trans K.c7, (hc _ (by omega)).trans K.cl, ownsRow_setCell_other K.row (own_ne K.row hcs (by decide)) v, fun p t hp ht => ?_, ?_⟩, ⟨tv, vs, hT.other hcs (by decide) (by decide) (by decide) v⟩, (hc _ (by omega)).trans h.t, (hc _ (by omega)).trans h.m, h.low.setCell (p := ⟨Wb, j, none⟩) (Nat.le_refl _) v, h.fc.trans (Fc.put hcs j (by omega) v)⟩
  · rcases hd p t hp ht with ⟨h1, h2⟩ | ⟨h1, h2⟩
    · rw [h2]; exact (hc _ h1).trans (K.cd p t hp ht)
    · rw [h1, ← h2]; exact hs
  · rcases hn with ⟨h1, h2⟩ | ⟨h1, h2⟩
    · rw [h2]; exact (hc 70 (fun e => h1 e.symm)).trans K.cn
    · subst h1; rw [← h2]; exact hs
theorem CI.fin {Wb : Nat} {lv : Value} {cf : Cf} {M R : Nat} {l : List Gr} {dn : Nat → Nat → Bool} {now Tb N : Nat} {bk' : Bk} {w wr : World} (h : CI Wb lv cf l dn now Tb bk' w wr) (hrel : Rel cf M R bk' l dn) (hnow : now = bk'.now) (ok : cf.ok) (hM : cf.maps = (M : Int)) (hR : cf.reds = (R : Int)) (WT : Wb ≤ Tb) (h1 : bk'.gs ≤ N + 1) (h2 : bk'.now ≤ N + 1) : Fin Wb cf M R Tb N w wr := by
  obtain ⟨tv, vs, hT⟩ := h.T
  subst hnow
  exact ⟨⟨bk', l, dn, _, tv, vs, h.blk, h.K, hT, hrel, ok, hM, hR, h.t, h.m, h1, h2, WT⟩, h.low, h.fc⟩
end Go.Proofs.YtibofakbhgmhiabGreatDoor
