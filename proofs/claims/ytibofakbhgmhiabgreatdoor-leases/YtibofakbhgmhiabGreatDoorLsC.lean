import Derived.Test.YtibofakbhgmhiabGreatDoorLsB
namespace Go.Proofs.YtibofakbhgmhiabGreatDoor
open Go.RowKit

/-- all that is no table's, no task's and no attempt's is as it was -/
structure Tf (w w' : World) : Prop where
  os : w'.os = w.os
  tape : w'.tape = w.tape
  output : w'.output = w.output
  size : w.heap.size ≤ w'.heap.size
  block : ∀ (k : Nat) (c : Array Value) (t : TypeId) (fz : Nat × Nat), w.heap[k]? = some (.cells c t fz) → t ≠ 126 → t ≠ 205 → t ≠ 283 → w'.heap[k]? = some (.cells c t fz)
theorem Tf.refl (w : World) : Tf w w := ⟨rfl, rfl, rfl, Nat.le_refl _, fun _ _ _ _ h _ _ _ => h⟩
theorem Tf.trans {a b c : World} (h : Tf a b) (k : Tf b c) : Tf a c :=
  ⟨k.os.trans h.os, k.tape.trans h.tape, k.output.trans h.output, Nat.le_trans h.size k.size, fun i cc t fz hi h1 h2 h3 => k.block i cc t fz (h.block i cc t fz hi h1 h2 h3) h1 h2 h3⟩
theorem Tf.of_below {w w' : World} (h : Below w.heap.size w w') : Tf w w' :=
  ⟨h.os, h.tape, h.output, h.size, fun i _ _ _ hi _ _ _ => by rw [h.block i (lt_of_block hi)]; exact hi⟩
theorem Tf.drew {a w : World} (h : Tf a w) : Tf a w.drew := ⟨h.os, h.tape, h.output, h.size, h.block⟩
theorem Tf.drewN {a w : World} (h : Tf a w) (q : Nat) : Tf a (w.drewN q) := ⟨h.os, h.tape, h.output, h.size, h.block⟩
theorem Tf.alloc {a w : World} (h : Tf a w) (o : Obj) : Tf a (w.alloc o) := h.trans (Tf.of_below ((Below.refl _ _).alloc (Nat.le_refl _) o))
theorem Tf.setCell {a w : World} (h : Tf a w) {b j : Nat} {c : Array Value} {t : TypeId} {fz : Nat × Nat} (hb : w.heap[b]? = some (.cells c t fz)) (ht : t = 126 ∨ t = 205 ∨ t = 283) (v : Value) : Tf a (w.setCell ⟨b, j, none⟩ v) := by
  refine h.trans ⟨rfl, rfl, rfl, by simp [World.setCell], fun k c' t' fz' hk h1 h2 h3 => ?_⟩
  have hne : k ≠ b := by
    rintro rfl
    rw [hb] at hk
    simp only [Option.some.injEq, Obj.cells.injEq] at hk
    obtain ⟨_, rfl, _⟩ := hk
    rcases ht with rfl | rfl | rfl
    · exact h1 rfl
    · exact h2 rfl
    · exact h3 rfl
  rw [Below.heap_setCell _ _ _ _ hne]; exact hk
theorem Tf.own {w w' : World} (h : Tf w w') {B : Nat} {e : TypeId} {s : Nat} {v : Value} {n : Nat} {xs : List Value} (ho : w.ownsRow B e s v n xs) (h1 : e ≠ 126) (h2 : e ≠ 205) (h3 : e ≠ 283) : w'.ownsRow B e s v n xs := by
  refine ⟨ho.1, ?_⟩
  rcases ho.2 with h0 | ⟨g, cap, cur, hv, hg, hh, r⟩
  · exact .inl h0
  · exact .inr ⟨g, cap, cur, hv, hg, h.block g _ _ _ hh h1 h2 h3, r⟩
theorem Tf.grown {w w2 : World} {B : Nat} {e : TypeId} {s : Nat} {v : Value} {n : Nat} {xs : List Value} (ho : w.ownsRow B e s v n xs) (hg : w.grownBy w2 v.ownBlock) (he : e = 205 ∨ e = 283) : Tf w w2 :=
  ⟨hg.os, hg.tape, hg.output, hg.size, fun k c t fz hk h1 h2 h3 => by
    rw [hg.block k (lt_of_block hk) (fun e' => own_ne ho hk (fun e2 => by subst e2; rcases he with rfl | rfl; exact h2 rfl; exact h3 rfl) e'.symm)]; exact hk⟩

set_option maxHeartbeats 1000000 in
set_option maxRecDepth 100000 in
theorem idxTask {B : Nat} {w : World} {tv : Value} {ts : List Tk} {vs : List Value} (h : TsAt B w tv ts vs) (hl : ts.length ≤ 1048576) :
    Calls Tryz.prog 96 #[tv, .func (.func 97) #[] #[]] w fun e w' => ((∃ k, ∃ hk : k < ts.length, e = .returned (.int .i64 k) ∧ ts[k].idle = true ∧ ∀ j (hj : j < k), (ts[j]'(by omega)).idle = false) ∨ (e = .returned (.int .i64 (-1)) ∧ ∀ j (hj : j < ts.length), ts[j].idle = false)) ∧ Below w.heap.size w w' := by
  obtain ⟨a, c, rfl⟩ := h.slice
  go_enter Tryz.func96, Tryz.ntmps96
  go_wp2_with fail
  go_loopw [8] (fun jv wr => ∃ j : Nat, j ≤ ts.length ∧ jv = .int .i64 j ∧ (∀ i (hi : i < j) (hl : i < ts.length), ts[i].idle = false) ∧ Below w.heap.size w wr) (fun jv _ => ts.length - (intOf jv).toNat)
  case atStart => exact ⟨0, Nat.zero_le _, rfl, fun i hi => absurd hi (Nat.not_lt_zero _), Below.refl _ _⟩
  case round =>
    obtain ⟨j, hj, rfl, hno, hb⟩ := hrel
    by_cases hjl : j < ts.length
    · obtain ⟨g, c', e⟩ := h.at0 j hjl
      simp only [Value.slice.injEq] at e
      obtain ⟨rfl, _, rfl⟩ := e
      obtain ⟨d0, d1, d2⟩ := (h.below hb).cells j hjl
      obtain ⟨la, lc, hlv⟩ := h.lv j hjl (by rw [h.len]; exact hjl)
      rw [hlv] at d2
      have HI : Hid (Calls Tryz.prog 97 #[.agg #[.bool ts[j].done, .int .i64 ts[j].gr, .slice la ts[j].live.length lc]] wr fun e w' => e = .returned (.bool ts[j].idle) ∧ Below w.heap.size w w') := by
        refine (idle ts[j] la lc wr).mono ?_
        rintro e w1 ⟨rfl, hb1⟩
        exact ⟨rfl, hb.trans (hb1.mono hb.size)⟩
      have HN : Hid (∀ i (hi : i < j) (hl : i < ts.length), ts[i].idle = false) := hno
      have HJ : Hid (ts[j].idle = ts[j].idle) := rfl
      clear hlv h hno
      obtain ⟨x, hx⟩ : ∃ x, x = ts[j] := ⟨_, rfl⟩
      rw [← hx] at d0 d1 d2 HI
      have HX : Hid (x = ts[j]) := hx
      clear hx HJ
      obtain ⟨dn, gr, lv⟩ := x
      simp only at d0 d1 d2 HI
      generalize lv.length = ln at *
      cases hid : (Tk.mk dn gr lv).idle with
      | true =>
        rw [hid] at HI
        go_wp2_with (go_at_call 97; refine HI.out.mono ?_; rintro e w1 ⟨rfl, hb1⟩)
        go_ret
        exact ⟨.inl ⟨j, hjl, rfl, by rw [← HX.out]; exact hid, fun i hi => HN.out i hi (by omega)⟩, hb1⟩
      | false =>
        rw [hid] at HI
        go_wp2_with (go_at_call 97; refine HI.out.mono ?_; rintro e w1 ⟨rfl, hb1⟩)
        go_roundw
        case rel =>
          refine ⟨j + 1, by omega, by go_num, fun i hi hl => ?_, hb1⟩
          by_cases e : i < j
          · exact HN.out i e hl
          · obtain rfl : i = j := by omega
            rw [← HX.out]; exact hid
        case measure => simp [intOf]; omega
    · obtain rfl : j = ts.length := by omega
      clear h
      go_wp2
      go_ret
      exact ⟨.inr ⟨rfl, fun i hi => hno i hi hi⟩, hb⟩

set_option maxHeartbeats 2000000 in
set_option maxRecDepth 100000 in
theorem slowest {B Tb : Nat} {st : Int} {cf : Cf} {w : World} {bk : Bk} {tv : Value} {vs : List Value} (h : TbAt B Tb st cf w bk tv vs) (hl : bk.ts.length ≤ 1048576) (hal : ∀ t ∈ bk.ts, t.live.length ≤ 1048576) :
    Calls Tryz.prog 99 #[.pointer (some ⟨Tb, 2, none⟩)] w fun e w' => (∃ (m : Int) (ok : Bool), e = .returned (.tuple #[.int .i64 m, .bool ok]) ∧ (ok = true → ∃ k, ∃ hk : k < bk.ts.length, m = k ∧ bk.ts[k].mayB cf = true)) ∧ Below w.heap.size w w' := by
  have hTl := lt_of_block h.blk
  have c8 : w.cell? ⟨Tb, 8, none⟩ = some (.int .i64 cf.late) := by simp [World.cell?, h.blk]
  have c11 : w.cell? ⟨Tb, 11, none⟩ = some tv := by simp [World.cell?, h.blk]
  have c13 : w.cell? ⟨Tb, 13, none⟩ = some (.int .i64 bk.now) := by simp [World.cell?, h.blk]
  obtain ⟨a, c, rfl⟩ := h.ts.slice
  go_enter Tryz.func99, Tryz.ntmps99
  go_wp2_with fail
  go_quiet (fail)
  go_wp2_with fail
  go_loopw [4, 5, 19] (fun fv mv jv wr => ∃ (j : Nat) (f m : Int), j ≤ bk.ts.length ∧ jv = .int .i64 j ∧ mv = .int .i64 m ∧ fv = .int .i64 f ∧ (f = -1 ∨ ∃ k, ∃ hk : k < bk.ts.length, f = k ∧ bk.ts[k].mayB cf = true) ∧ Below w.heap.size w wr) (fun _ _ jv _ => bk.ts.length - (intOf jv).toNat)
  case atStart => exact ⟨0, _, _, Nat.zero_le _, rfl, rfl, rfl, .inl rfl, below_drewN (Below.refl _ _) _⟩
  case round =>
    obtain ⟨j, f, m, hj, rfl, rfl, rfl, hf, hb⟩ := hrel
    by_cases hjl : j < bk.ts.length
    · have hb0 := h.below hb
      obtain ⟨g, c', e⟩ := h.ts.at0 j hjl
      simp only [Value.slice.injEq] at e
      obtain ⟨rfl, _, rfl⟩ := e
      obtain ⟨d0, d1, d2⟩ := hb0.ts.cells j hjl
      have hjv : j < vs.length := by rw [h.ts.len]; exact hjl
      obtain ⟨la, lc, hlv⟩ := h.ts.lv j hjl hjv
      have hats := ats_of_own (h.ts.live j hjl hjv)
      rw [hlv] at d2 hats
      have e13 := (hb.cell (p := ⟨Tb, 13, none⟩) hTl).trans c13
      have hll := hal _ (List.getElem_mem hjl)
      have HM : Hid (∀ o, o = Obj.cells #[.bool bk.ts[j].done, .int .i64 bk.ts[j].gr, .slice la bk.ts[j].live.length lc] 205 → Calls Tryz.prog 167 #[.pointer (some ⟨Tb, 2, none⟩), .agg #[.bool bk.ts[j].done, .int .i64 bk.ts[j].gr, .slice la bk.ts[j].live.length lc]] (wr.alloc o) fun e w1 => e = .returned (.bool (bk.ts[j].mayB cf)) ∧ w1.cell? ⟨Tb, 13, none⟩ = some (.int .i64 bk.now) ∧ w1.cell? ⟨wr.heap.size, 0, none⟩ = some (.bool bk.ts[j].done) ∧ w1.cell? ⟨wr.heap.size, 1, none⟩ = some (.int .i64 bk.ts[j].gr) ∧ w1.cell? ⟨wr.heap.size, 2, none⟩ = some (.slice la bk.ts[j].live.length lc) ∧ Below w.heap.size w w1 ∧
          Calls Tryz.prog 168 #[.agg #[.bool bk.ts[j].done, .int .i64 bk.ts[j].gr, .slice la bk.ts[j].live.length lc], .int .i64 bk.now] w1.drew fun e w2 => ((∃ x : Int, e = .returned (.int .i64 x)) ∧ Below w.heap.size w w2) ∧ w2.cell? ⟨Tb, 13, none⟩ = some (.int .i64 bk.now) ∧ w2.cell? ⟨wr.heap.size, 0, none⟩ = some (.bool bk.ts[j].done) ∧ w2.cell? ⟨wr.heap.size, 1, none⟩ = some (.int .i64 bk.ts[j].gr) ∧ w2.cell? ⟨wr.heap.size, 2, none⟩ = some (.slice la bk.ts[j].live.length lc)) := by
        rintro o rfl
        have hba : Below wr.heap.size wr (wr.alloc (.cells #[.bool bk.ts[j].done, .int .i64 bk.ts[j].gr, .slice la bk.ts[j].live.length lc] 205)) := (Below.refl _ _).alloc (Nat.le_refl _) _
        refine (mayBackUp (hb0.below hba) bk.ts[j] la lc).mono ?_
        rintro e w1 ⟨rfl, hb1⟩
        have hsz := hb.size
        have hs1 := hb1.size
        simp at hs1
        have hbw : Below w.heap.size w w1 := (hb.trans (hba.mono hsz)).trans (hb1.mono (by simp; omega))
        have hn : ∀ i, i < 3 → w1.cell? ⟨wr.heap.size, i, none⟩ = #[Value.bool bk.ts[j].done, .int .i64 bk.ts[j].gr, .slice la bk.ts[j].live.length lc][i]? := fun i hi => by
          rw [hb1.cell (p := ⟨wr.heap.size, i, none⟩) (by simp), World.cell?_alloc_at _ _ _ _ (by simp)]
        have hT1 : w1.cell? ⟨Tb, 13, none⟩ = some (.int .i64 bk.now) := (hbw.cell (p := ⟨Tb, 13, none⟩) hTl).trans c13
        refine ⟨rfl, hT1, hn 0 (by omega), hn 1 (by omega), hn 2 (by omega), hbw, ?_⟩
        refine (test bk.ts[j] _ bk.now w1.drew (hats.below hbw.drew) hll).mono ?_
        rintro e w2 ⟨hx, hb2⟩
        have hb2' : Below w1.heap.size w1 w2 := (Below.refl _ _).drew.trans hb2
        exact ⟨⟨hx, hbw.trans (hb2'.mono (by omega))⟩, (hb2'.cell (p := ⟨Tb, 13, none⟩) (by show Tb < _; omega)).trans hT1, (hb2'.cell (p := ⟨wr.heap.size, 0, none⟩) (by show wr.heap.size < _; omega)).trans (hn 0 (by omega)), (hb2'.cell (p := ⟨wr.heap.size, 1, none⟩) (by show wr.heap.size < _; omega)).trans (hn 1 (by omega)), (hb2'.cell (p := ⟨wr.heap.size, 2, none⟩) (by show wr.heap.size < _; omega)).trans (hn 2 (by omega))⟩
      have HF : Hid (f = -1 ∨ ∃ k, ∃ hk : k < bk.ts.length, f = k ∧ bk.ts[k].mayB cf = true) := hf
      have HJ : Hid (bk.ts[j].mayB cf = true → (j : Int) = -1 ∨ ∃ k, ∃ hk : k < bk.ts.length, (j : Int) = k ∧ bk.ts[k].mayB cf = true) := fun e => .inr ⟨j, hjl, rfl, e⟩
      clear h hb0 hats hlv hal hf hll
      obtain ⟨x, hx⟩ : ∃ x, x = bk.ts[j] := ⟨_, rfl⟩
      rw [← hx] at d0 d1 d2 HM HJ
      clear hx
      obtain ⟨dn, gr, lv⟩ := x
      simp only at d0 d1 d2 HM
      generalize hmb : (Tk.mk dn gr lv).mayB cf = mb at *
      generalize lv.length = ln at *
      cases mb with
      | false =>
        go_wp2_with (go_at_call 167; refine (HM.out _ rfl).mono ?_; rintro e w1 ⟨rfl, e0, e1, e2, e3, hbw, HT⟩)
        go_roundw
        case rel => exact ⟨j + 1, f, m, by omega, by go_num, rfl, rfl, HF.out, hbw⟩
        case measure => simp [intOf]; omega
      | true =>
        go_wp2_with (go_at_call 167; refine (HM.out _ rfl).mono ?_; rintro e w1 ⟨rfl, e0, e1, e2, e3, hbw, HT⟩)
        have HT' : Hid (Calls _ _ _ _ _) := HT
        clear HT HM
        go_region_held (fun w1 => w1.cell? ⟨Tb, 13, none⟩ = some (.int .i64 bk.now) ∧ w1.cell? ⟨wr.heap.size, 0, none⟩ = some (.bool dn) ∧ w1.cell? ⟨wr.heap.size, 1, none⟩ = some (.int .i64 gr) ∧ w1.cell? ⟨wr.heap.size, 2, none⟩ = some (.slice la ln lc)) (first | exact ⟨e0, e1, e2, e3⟩ | assumption | go_keep) ((go_at_call 168; refine HT'.out.mono ?_; rintro e w2 ⟨⟨⟨y, rfl⟩, hb2⟩, hkeep⟩))
        go_wp2
        · go_roundw
          case rel => exact ⟨j + 1, _, _, by omega, by go_num, rfl, rfl, HJ.out (by simp), hb2⟩
          case measure => simp [intOf]; omega
        · go_roundw
          case rel => exact ⟨j + 1, _, _, by omega, by go_num, rfl, rfl, HF.out, hb2⟩
          case measure => simp [intOf]; omega
    · obtain rfl : j = bk.ts.length := by omega
      have HF : Hid (f = -1 ∨ ∃ k, ∃ hk : k < bk.ts.length, f = k ∧ bk.ts[k].mayB cf = true) := hf
      clear h hal hf
      go_wp2
      go_ret2
      refine ⟨⟨f, _, rfl, fun hok => ?_⟩, hb⟩
      rcases HF.out with rfl | hk
      · simp at hok
      · exact hk
end Go.Proofs.YtibofakbhgmhiabGreatDoor
