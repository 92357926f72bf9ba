import Derived.Test.YtibofakbhgmhiabGreatDoorSml
import Derived.Deep.Slices
import Derived.SizedLaws
import Derived.OpenShut
namespace Go.Proofs.YtibofakbhgmhiabGreatDoor
open Go.RowKit Go.Deep

theorem Tryz.cellsKop : Tryz.prog.cellsOf 45 = 6 := by kernel_rfl
theorem Tryz.bytesKop : Tryz.prog.bytesOf 45 = 64 := by kernel_rfl
theorem Tryz.cellsInt : Tryz.prog.cellsOf 3 = 1 := by kernel_rfl
theorem Tryz.cellsStr' : Tryz.prog.cellsOf 9 = 1 := by kernel_rfl

section
variable {H : Type} {enc : TypeId × Value → H} {W : World} {base : Nat} {spare : Nat → Bool} {held : Bool}

def OpD.data (o : OpD) : DataW H := .agg [.lit (.int .i64 o.k), .lit (.int .i64 o.A), .lit (.int .i64 o.B), .lit (.int .i64 o.C), .lit (.string o.s.data.toList), .lit (.string o.t.data.toList)]

theorem six_of {cs : List Value} (h : cs.length = 6) : ∃ a b c d e f, cs = [a, b, c, d, e, f] := by
  match cs, h with
  | [a, b, c, d, e, f], _ => exact ⟨a, b, c, d, e, f, rfl⟩

theorem op_of_trod {fuel : Nat} {cs : List Value} {d : DataW H} {p : List MemPlace} (h : DataW.trod enc Tryz.prog W base spare held fuel 45 cs = some (d, p)) :
    ∃ o : OpD, cs = [.int .i64 o.k, .int .i64 o.A, .int .i64 o.B, .int .i64 o.C, .string o.s, .string o.t] ∧ d = o.data ∧ (Lit.int .i64 o.A).wf = true := by
  cases fuel with
  | zero => simp [DataW.trod] at h
  | succ n =>
    rw [DataW.trod_step] at h
    unfold DataW.trodStep at h
    simp only [Tryz.underlying45] at h
    split at h
    · rename_i hlen
      rw [Tryz.cellsKop] at hlen
      obtain ⟨v0, v1, v2, v3, v4, v5, rfl⟩ := six_of hlen
      simp only [Tryz.cellsInt, Tryz.cellsStr', List.mapM_cons, List.mapM_nil, List.drop, List.take, Option.bind_eq_bind, Option.pure_def, Option.map_eq_some_iff, Option.bind_eq_some_iff, Option.some.injEq] at h
      obtain ⟨_, ⟨x0, h0, _, ⟨x1, h1, _, ⟨x2, h2, _, ⟨x3, h3, _, ⟨x4, h4, _, ⟨x5, h5, _, rfl, rfl⟩, rfl⟩, rfl⟩, rfl⟩, rfl⟩, rfl⟩, hd⟩ := h
      obtain ⟨n0, e0, rfl, w0⟩ := DataW.trod_int Tryz.underlying3 h0
      obtain ⟨n1, e1, rfl, w1⟩ := DataW.trod_int Tryz.underlying3 h1
      obtain ⟨n2, e2, rfl, w2⟩ := DataW.trod_int Tryz.underlying3 h2
      obtain ⟨n3, e3, rfl, w3⟩ := DataW.trod_int Tryz.underlying3 h3
      obtain ⟨s4, e4, rfl, w4⟩ := DataW.trod_string Tryz.underlying9 h4
      obtain ⟨s5, e5, rfl, w5⟩ := DataW.trod_string Tryz.underlying9 h5
      simp only [List.cons.injEq, and_true] at e0 e1 e2 e3 e4 e5
      subst e0 e1 e2 e3 e4 e5
      simp only [Prod.mk.injEq] at hd
      exact ⟨⟨n0, n1, n2, n3, s4, s5⟩, rfl, hd.1.symm, w1⟩
    · cases h

theorem mem_weightsAll {P : Program} {e : TypeId} : ∀ {l : List (DataW H)} (d : DataW H), d ∈ l → ∀ n ∈ d.weights P e, n ∈ DataW.weightsAll P e l
  | [], d, h, _, _ => by cases h
  | x :: l, d, h, n, hn => by
    simp only [DataW.weightsAll, List.mem_append]
    rcases List.mem_cons.1 h with rfl | h
    · exact .inl hn
    · exact .inr (mem_weightsAll d h n hn)

theorem ops_of_trod {fuel : Nat} {v : Value} {d : DataW H} {p : List MemPlace} (h : DataW.trod enc Tryz.prog W 0 (fun _ => true) held fuel 22 [v] = some (d, p)) (hw : ∀ n ∈ d.weights Tryz.prog 22, n ≤ reachBytes) :
    ∃ ops : List OpD, OpsAt W v ops ∧ ops.length ≤ 140737488351232 ∧ ∀ o ∈ ops, (o.s.size ≤ 140737488351232 ∧ o.t.size ≤ 140737488351232) ∧ -9223372036854775808 ≤ o.A ∧ o.A ≤ 9223372036854775807 := by
  rcases open_slice Tryz.underlying22 h with ⟨hv, _⟩ | ⟨a, len, cap, m, n, D, Pl, hv, _, hl, hm, hmm, hx, hel⟩
  · simp only [List.cons.injEq, and_true] at hv
    subst hv
    exact ⟨[], ⟨none, 0, rfl, fun j hj => absurd hj (Nat.not_lt_zero _)⟩, Nat.zero_le _, fun o ho => by cases ho⟩
  · simp only [List.cons.injEq, and_true] at hv
    subst hv
    simp only [if_true] at hmm
    subst hmm
    rw [Tryz.cellsKop] at hel
    obtain ⟨f, hf⟩ := @choose_lt OpD ⟨⟨0, 0, 0, 0, ⟨#[]⟩, ⟨#[]⟩⟩⟩ m (fun i o => (∃ cs', W.cells? 0 (a.add (i * 6)) 6 = some cs' ∧ cs' = [.int .i64 o.k, .int .i64 o.A, .int .i64 o.B, .int .i64 o.C, .string o.s, .string o.t]) ∧ D i = o.data ∧ (Lit.int .i64 o.A).wf = true) (fun i hi => by
      obtain ⟨cs', h1, h2⟩ := hel i hi
      obtain ⟨o, e1, e2, e3⟩ := op_of_trod h2
      exact ⟨o, ⟨cs', h1, e1⟩, e2, e3⟩)
    have hsl : (List.range len).length ≤ 140737488351232 := by
      have := hw ((((List.range len).map D).length + ((List.range (m - len)).map fun j => D (len + j)).length) * Tryz.prog.bytesOf 45) (by
        simp only [Prod.mk.injEq] at hx
        rw [hx.1]
        simp [DataW.weights, Tryz.underlying22])
      rw [Tryz.bytesKop] at this
      simp [reachBytes] at this
      simp
      omega
    refine ⟨(List.range len).map f, ⟨some a, m, by simp, fun j hj => ?_⟩, by simpa using hsl, fun o ho => ?_⟩
    · have hj' : j < len := by simpa using hj
      obtain ⟨⟨cs', h1, e1⟩, _, _⟩ := hf j (by omega)
      obtain ⟨_, _, hcell⟩ := World.cells?_some h1
      have hsp : a.spot = none := by
        obtain ⟨⟨cs0, g1, g2⟩, _, _⟩ := hf 0 (by omega)
        obtain ⟨_, _, hc0⟩ := World.cells?_some g1
        have := hc0 0 (by omega)
        rw [g2] at this
        simp [Addr.add] at this
        cases hs : a.spot with
        | none => rfl
        | some x =>
          simp only [World.cell?, hs] at this
          split at this <;> simp at this
      obtain ⟨b, off, sp⟩ := a
      simp only at hsp
      subst hsp
      have key : ∀ i, i < 6 → W.cell? ⟨b, off + j * 6 + i, none⟩ = cs'[i]? := by
        intro i hi
        have := hcell i hi
        rw [← this]
        congr 1
        unfold Addr.add
        by_cases h0 : j * 6 = 0 <;> by_cases h1 : i = 0 <;> simp [h0, h1]
      have e0 : ((List.range len).map f)[j] = f j := by simp
      rw [e0]
      subst e1
      refine ⟨b, off, rfl, ?_, ?_, ?_, ?_, ?_, ?_⟩
      · simpa using key 0 (by omega)
      · simpa using key 1 (by omega)
      · simpa using key 2 (by omega)
      · simpa using key 3 (by omega)
      · simpa using key 4 (by omega)
      · simpa using key 5 (by omega)
    · simp at ho
      obtain ⟨j, hj, rfl⟩ := ho
      obtain ⟨_, hd, hwf⟩ := hf j (by omega)
      refine ⟨?_, bounds_i64 hwf⟩
      have hmem : ∀ n ∈ (D j).weights Tryz.prog 45, n ≤ reachBytes := by
        intro n hn
        apply hw n
        simp only [Prod.mk.injEq] at hx
        rw [hx.1]
        simp only [DataW.weights, Tryz.underlying22]
        refine List.mem_cons_of_mem _ (List.mem_append_left _ ?_)
        exact mem_weightsAll (D j) (List.mem_map.2 ⟨j, List.mem_range.2 hj, rfl⟩) n hn
      rw [hd] at hmem
      have q1 := hmem (f j).s.data.toList.length (by simp [OpD.data, DataW.weights, DataW.weightsEach, Tryz.underlying45])
      have q2 := hmem (f j).t.data.toList.length (by simp [OpD.data, DataW.weights, DataW.weightsEach, Tryz.underlying45])
      rw [Array.length_toList] at q1 q2
      simp only [reachBytes] at q1 q2
      exact ⟨q1, q2⟩
end
end Go.Proofs.YtibofakbhgmhiabGreatDoor
