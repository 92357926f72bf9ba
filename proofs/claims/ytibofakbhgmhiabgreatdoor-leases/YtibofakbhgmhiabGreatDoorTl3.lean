import Derived.Test.YtibofakbhgmhiabGreatDoorTl2
namespace Go.Proofs.YtibofakbhgmhiabGreatDoor
open Go.RowKit

/-- how many are gathered -/
def lenOf (wr : World) (Lv : Nat) : Nat := match wr.cell? ⟨Lv, 0, none⟩ with | some (.slice _ l _) => l | _ => 0
theorem YAt.lenOf {B Nb Lv Mb : Nat} {n : Int} {lv : Value} {w : World} {xs : Rn} (h : YAt B Nb Lv Mb n lv w xs) : lenOf w Lv = xs.length := by
  obtain ⟨a, c, rfl⟩ := hown_slice h.own
  unfold Go.Proofs.YtibofakbhgmhiabGreatDoor.lenOf
  rw [cell_of_one h.lb]
theorem TInv.lenOf {w0 : World} {B Hb Lb Nb Lv Mb : Nat} {n : Int} {rs : List Rn} {Fb : Nat} {ok : Bool} {tr : List Nat} {got : Rn} {wr : World} (h : TInv w0 B Hb Lb Nb Lv Mb n rs Fb ok tr got wr) : lenOf wr Lv = tr.length := by
  obtain ⟨x, xs, ⟨tv, lv, _, _, _, _, h5, _⟩, _, ht, _⟩ := h
  rw [h5.lenOf, ht.len]

/-- what tellMerged leaves -/
def Told (w0 : World) (B Nb Lv Mb : Nat) (n : Int) (rs : List Rn) (w' : World) : Prop :=
  ∃ tr got lv, Tr rs tr got ∧ tr.length = wantN n (total rs) ∧ YAt B Nb Lv Mb n lv w' got ∧ (∀ i, lv.ownBlock = some i → w0.heap.size ≤ i) ∧ Kp (· = Lv) w0 w'

theorem told_full {w0 : World} {B Hb Lb Nb Lv Mb : Nat} {n : Int} {rs : List Rn} {Fb : Nat} {tr : List Nat} {got : Rn} {wr : World} (h : TInv w0 B Hb Lb Nb Lv Mb n rs Fb false tr got wr) : Told w0 B Nb Lv Mb n rs wr := by
  obtain ⟨x, xs, ⟨tv, lv, _, _, _, _, h5, h6, h7⟩, hP, ht, hg⟩ := h
  rcases hP with ⟨e, _⟩ | ⟨_, hh, _⟩
  · cases e
  · refine ⟨tr, got, lv, ht, ?_, h5, h6, h7⟩
    have hf := ht.full hh
    have hl := ht.len
    unfold wantN
    rw [hf, if_neg]
    omega
theorem told_stop {w0 : World} {B Hb Lb Nb Lv Mb : Nat} {n : Int} {rs : List Rn} {Fb : Nat} {x : Hd} {xs : List Hd} {tr : List Nat} {got : Rn} {wr : World} (h : Mid w0 B Hb Lb Nb Lv Mb n Fb x xs got wr) (ht : Tr rs tr got) (hg : (got.length : Int) = n) (h1 : 1 ≤ got.length) : Told w0 B Nb Lv Mb n rs wr := by
  obtain ⟨tv, lv, _, _, _, _, h5, h6, h7⟩ := h
  refine ⟨tr, got, lv, ht, ?_, h5, h6, h7⟩
  have hl := ht.len
  have hle := ht.le_total
  unfold wantN
  split <;> omega

/-- the first Pop -/
theorem start_pop {w0 : World} {B Hb Lb Nb Lv Mb : Nat} {n : Int} {xs : List Hd} {rs : List Rn} {tv : Value} {w2 : World} (hv : HpV Hb Hb Lb tv w2 xs) (hy : YAt B Nb Lv Mb n (.slice none 0 0) w2 []) (hK : Kp (· = Lv) w0 w2) (hH : w0.heap.size ≤ Hb) (hn : rs.length ≤ 1048576) (hh : Heads rs [] xs) (hp : Hp xs) :
    Calls Tryz.prog 233 #[.pointer (some ⟨Hb, 0, none⟩)] w2 fun e w3 => ∃ ok k t r m, e = .returned (.tuple #[.agg #[.int .i64 k, .int .i64 t, .int .i64 r, .int .i64 m], .bool ok]) ∧ TInv w0 B Hb Lb Nb Lv Mb n rs w3.heap.size ok [] [] (w3.alloc (.cells #[.int .i64 k, .int .i64 t, .int .i64 r, .int .i64 m] 384)) := by
  refine (hpopS hv hh hp (last_start xs) hn).mono ?_
  rintro e w3 ⟨ok, k, t, r, m, xs', tv', rfl, hP, hv', hown, k1⟩
  have hb : Below w3.heap.size w3 (w3.alloc (.cells #[.int .i64 k, .int .i64 t, .int .i64 r, .int .i64 m] 384)) := (Below.refl _ _).alloc (Nat.le_refl _) _
  obtain ⟨_, _, _, a1, a2, a3, a4⟩ := hv.apart hy
  have K1 : Kp (· = Lv) w0 w3 := hK.trans k1 (fun i hi e => by
      rcases e with rfl | e
      · omega
      · have := hv.lt i e; omega)
  refine ⟨ok, k, t, r, m, rfl, ⟨k, t, r, m⟩, xs', ⟨tv', .slice none 0 0, ?_, ?_, K1.size, hv'.below hb, (hy.kp k1 a1 a2 a3 a4).below hb, fun i hi => by simp [Value.ownBlock] at hi, K1.alloc _⟩, hP, tr_start rs, ?_⟩
  · show (w3.heap.push _)[w3.heap.size]? = _
    exact Array.getElem?_push_size
  · intro e; have := (hv'.own.lt _ e).2; omega
  · simp; omega

set_option maxHeartbeats 4000000 in
set_option maxRecDepth 100000 in
theorem tell {B Nb Lv Mb : Nat} {n : Int} {w : World} {v : Value} {rs : List Rn} (hst : RunsSt (· = Lv) w v rs) (hR : Rises rs) (hn : rs.length ≤ 1048576) (hTo : total rs ≤ 1048576) (h : YAt B Nb Lv Mb n (.slice none 0 0) w []) (hB : B ≤ w.heap.size) :
    Calls Tryz.prog 150 #[.func (.func 76) #[] #[], v, .func (.func 77) #[] #[.pointer (some ⟨Nb, 0, none⟩), .pointer (some ⟨Lv, 0, none⟩), .pointer (some ⟨Mb, 0, none⟩)]] w fun e w' => e = .returned (.tuple #[]) ∧ Told w B Nb Lv Mb n rs w' := by
  have hst' := hst
  obtain ⟨a, c, rfl, hcell⟩ := hst'
  have hb0 : Below w.heap.size w (w.alloc (.cells #[.func (.func 76) #[] #[]] 175)) := (Below.refl _ _).alloc (Nat.le_refl _) _
  have hl0 : (w.alloc (.cells #[.func (.func 76) #[] #[]] 175)).heap[w.heap.size]? = some (.cells #[.func (.func 76) #[] #[]] 175 (0, 0)) := by
    show (w.heap.push _)[w.heap.size]? = _
    exact Array.getElem?_push_size
  have HF : Hid (Calls Tryz.prog 232 #[.slice a rs.length c] (w.alloc (.cells #[.func (.func 76) #[] #[]] 175)) fun e w1 => ∃ hv, e = .returned hv ∧ w1.ownsRow (w.heap.size + 1) 384 4 hv (firstN rs rs.length).length (hc (firstN rs rs.length)) ∧ Below (w.heap.size + 1) (w.alloc (.cells #[.func (.func 76) #[] #[]] 175)) w1) := by
    have := firstHeads (w.alloc (.cells #[.func (.func 76) #[] #[]] 175)) (.slice a rs.length c) rs (hst.at (Kp.of_below hb0)) hn
    rw [show (w.alloc (.cells #[.func (.func 76) #[] #[]] 175)).heap.size = w.heap.size + 1 from by simp] at this
    exact this
  have HN : Hid (∀ w1 hv, World.ownsRow w1 (w.heap.size + 1) 384 4 hv (firstN rs rs.length).length (hc (firstN rs rs.length)) → Below (w.heap.size + 1) (w.alloc (.cells #[.func (.func 76) #[] #[]] 175)) w1 →
      Calls Tryz.prog 230 #[.func (.func 282) #[] #[.pointer (some ⟨w.heap.size, 0, none⟩)], hv] w1 fun e w2 => ∃ Hb, e = .returned (.pointer (some ⟨Hb, 0, none⟩)) ∧ w.heap.size ≤ Hb ∧ Calls Tryz.prog 233 #[.pointer (some ⟨Hb, 0, none⟩)] w2 fun e w3 => ∃ ok k t r m, e = .returned (.tuple #[.agg #[.int .i64 k, .int .i64 t, .int .i64 r, .int .i64 m], .bool ok]) ∧ TInv w B Hb w.heap.size Nb Lv Mb n rs w3.heap.size ok [] [] (w3.alloc (.cells #[.int .i64 k, .int .i64 t, .int .i64 r, .int .i64 m] 384))) := by
    intro w1 hv ho hb1
    have hb1' : Below (w.alloc (.cells #[.func (.func 76) #[] #[]] 175)).heap.size (w.alloc (.cells #[.func (.func 76) #[] #[]] 175)) w1 := by simpa using hb1
    have hs1 := hb1.size
    simp at hs1
    have hl1 := (hb1.block w.heap.size (by omega)).trans hl0
    have hfl := firstN_le rs rs.length
    refine (hnew w.heap.size w1 (firstN rs rs.length) hv hl1 (hds_of_own ho) (by omega)).mono ?_
    rintro e w2 ⟨rfl, ⟨tv, hv2⟩, hb2⟩
    have hb02 : Below w.heap.size w w2 := (hb0.trans (hb1'.mono (by simp))).trans (hb2.mono (by omega))
    obtain ⟨p1, p2⟩ := buildL_hp (firstN rs rs.length)
    exact ⟨w1.heap.size, rfl, by omega, start_pop hv2 (h.below hb02) (Kp.of_below hb02) (by omega) hn ((heads_start rs).perm p2) p1⟩
  clear h hl0
  go_enter Tryz.func150, Tryz.ntmps150
  go_wp2_with (first
    | (go_at_call 231; refine (headOrder _).mono ?_; rintro e w1 ⟨rfl, rfl⟩)
    | (go_at_call 232; refine HF.out.mono ?_; rintro e w1 ⟨hv, rfl, ho, hb1⟩)
    | (go_at_call 230; refine (HN.out _ _ ho hb1).mono ?_; rintro e w2 ⟨Hb, rfl, hHb, HP⟩)
    | (go_at_call 233; refine HP.mono ?_; rintro e w3 ⟨ok, k, t, r, m, rfl, hI⟩))
  clear HF HN HP ho hb1 hb0
  go_loopw [7, 8] (fun p okv wr => ∃ Fb ok tr got, p = .pointer (some ⟨Fb, 0, none⟩) ∧ okv = .bool ok ∧ TInv w B Hb w.heap.size Nb Lv Mb n rs Fb ok tr got wr) (fun _ _ wr => total rs - lenOf wr Lv)
  case atStart => exact ⟨_, _, [], [], rfl, rfl, hI⟩
  case round =>
    clear hI
    obtain ⟨Fb, ok, tr, got, rfl, rfl, hI⟩ := hrel
    have HL : Hid (lenOf wr Lv = tr.length) := hI.lenOf
    cases ok with
    | false =>
      have HTold := told_full hI
      clear hI
      go_wp2
      go_end0
      exact ⟨rfl, HTold⟩
    | true =>
      obtain ⟨x, xs, hM, hP, hT, hg⟩ := hI
      rcases hP with ⟨_, hh, hp, hle, hla⟩ | ⟨e, _⟩
      · obtain ⟨i, hi, hT'⟩ := tell_step hT hh hla
        obtain ⟨hs0, hs1⟩ := heads_step (got := got) hR hh hT.len hle hi
        have hlt := hT'.le_total
        have hgl := hT.len
        have hxl := heads_len hh
        simp only [List.length_cons, List.length_append, List.length_nil] at hlt hxl
        obtain ⟨K, T, r, m⟩ := x
        have er : r = (i : Int) := hi.r_eq
        have em : m = ((tr.count i + 1 : Nat) : Int) := hi.n_eq
        subst er em
        obtain ⟨h1, h2, hxe⟩ := hi
        clear hxe
        obtain ⟨b, rfl, ai, ci, _, hc1, hc2⟩ := hcell i h1
        have hcl : tr.count i ≤ tr.length := List.count_le_length
        have HY : Hid (Calls Tryz.prog 77 #[.agg #[.int .i64 K, .int .i64 T], .pointer (some ⟨Nb, 0, none⟩), .pointer (some ⟨Lv, 0, none⟩), .pointer (some ⟨Mb, 0, none⟩)] wr fun e w1 =>
            e = .returned (.bool (decide (n < 1 ∨ ((got.length : Int) + 1) < n))) ∧ Mid w B Hb w.heap.size Nb Lv Mb n Fb ⟨K, T, (i : Int), ((tr.count i + 1 : Nat) : Int)⟩ xs (got ++ [(K, T)]) w1) := mid_yield hM hB hg (by omega)
        obtain ⟨f0, f1, f2, f3⟩ := hM.cells
        simp only at f0 f1 f2 f3
        have hi1 : (i : Int) < (rs.length : Int) := by omega
        by_cases hgo : n < 1 ∨ (got.length : Int) + 1 < n
        · have hd : decide (n < 1 ∨ (got.length : Int) + 1 < n) = true := by simpa using hgo
          rw [hd] at HY
          have hg2 : n < 1 ∨ ((got ++ [(K, T)]).length : Int) < n := by simpa using hgo
          by_cases hnx : tr.count i + 1 < rs[i].length
          · obtain ⟨hh', hla'⟩ := hs1 h1 hnx
            obtain ⟨bi, rfl, hc3⟩ := hc2 _ hnx
            have HRX : Hid (∀ w1, Kp (· = Lv) w w1 → w1.cell? ⟨b, i, none⟩ = some (.slice (some ⟨bi, 0, none⟩) rs[i].length ci) ∧ w1.cell? ⟨bi, (tr.count i + 1) * 2, none⟩ = some (.int .i64 rs[i][tr.count i + 1].1) ∧ w1.cell? ⟨bi, (tr.count i + 1) * 2 + 1, none⟩ = some (.int .i64 rs[i][tr.count i + 1].2)) := fun w1 hk => ⟨hc1 w1 hk, hc3 w1 hk⟩
            have hnx' : ((tr.count i + 1 : Nat) : Int) < (rs[i].length : Int) := by omega
            have hpl : tr.count i + 1 ≤ 1048576 := by omega
            have HPU : Hid (∀ w1, Mid w B Hb w.heap.size Nb Lv Mb n Fb ⟨K, T, (i : Int), ((tr.count i + 1 : Nat) : Int)⟩ xs (got ++ [(K, T)]) w1 → Calls Tryz.prog 234 #[.pointer (some ⟨Hb, 0, none⟩), .agg #[.int .i64 rs[i][tr.count i + 1].1, .int .i64 rs[i][tr.count i + 1].2, .int .i64 (i : Int), .int .i64 (((tr.count i + 1 : Nat) : Int) + 1)]] w1.drew fun e w2 => e = .returned (.tuple #[]) ∧ Mid w B Hb w.heap.size Nb Lv Mb n Fb ⟨K, T, (i : Int), ((tr.count i + 1 : Nat) : Int)⟩ (pushL xs ⟨rs[i][tr.count i + 1].1, rs[i][tr.count i + 1].2, (i : Int), ((tr.count i + 1 : Nat) : Int) + 1⟩) (got ++ [(K, T)]) w2) := fun w1 hM1 => mid_push hM1.drew hHb (by omega) _ _ _ _
            have e2 : ((tr.count i + 2 : Nat) : Int) = ((tr.count i + 1 : Nat) : Int) + 1 := by omega
            rw [e2] at hh' hla'
            have HPOP : Hid (∀ w1, Mid w B Hb w.heap.size Nb Lv Mb n Fb ⟨K, T, (i : Int), ((tr.count i + 1 : Nat) : Int)⟩ (pushL xs ⟨rs[i][tr.count i + 1].1, rs[i][tr.count i + 1].2, (i : Int), ((tr.count i + 1 : Nat) : Int) + 1⟩) (got ++ [(K, T)]) w1 → _) := fun w1 hM1 => mid_pop hM1 hHb hn (hh'.perm (pushL_perm _ _)) (pushL_hp hp _) (fun k hk hg y hy => hla' k hk hg y ((pushL_perm _ _).mem_iff.1 hy)) hT' hg2 ⟨K, T, (i : Int), ((tr.count i + 1 : Nat) : Int)⟩
            have HCE : Hid (∀ ys w1, Mid w B Hb w.heap.size Nb Lv Mb n Fb ⟨K, T, (i : Int), ((tr.count i + 1 : Nat) : Int)⟩ ys (got ++ [(K, T)]) w1 → w1.cell? ⟨Fb, 0, none⟩ = some (.int .i64 K) ∧ w1.cell? ⟨Fb, 1, none⟩ = some (.int .i64 T) ∧ w1.cell? ⟨Fb, 2, none⟩ = some (.int .i64 i) ∧ w1.cell? ⟨Fb, 3, none⟩ = some (.int .i64 ((tr.count i + 1 : Nat) : Int)) ∧ w1.cell? ⟨bi, (tr.count i + 1) * 2, none⟩ = some (.int .i64 rs[i][tr.count i + 1].1) ∧ w1.cell? ⟨bi, (tr.count i + 1) * 2 + 1, none⟩ = some (.int .i64 rs[i][tr.count i + 1].2)) := fun ys w1 hM1 => ⟨hM1.cells.1, hM1.cells.2.1, hM1.cells.2.2.1, hM1.cells.2.2.2, hc3 w1 hM1.kp⟩
            have HKP : Hid (∀ ys w1, Mid w B Hb w.heap.size Nb Lv Mb n Fb ⟨K, T, (i : Int), ((tr.count i + 1 : Nat) : Int)⟩ ys (got ++ [(K, T)]) w1 → Kp (· = Lv) w w1) := fun ys w1 hM1 => hM1.kp
            clear hs0 hs1 hM hh hp hle hla hT hT' hh' hla' hd hg2 hst hcell hc1 hc2 hc3 h2 e2
            generalize rs[i][tr.count i + 1].1 = k1 at *
            generalize rs[i][tr.count i + 1].2 = t1 at *
            generalize rs[i].length = rl at *
            generalize tr.count i + 1 = p at *
            go_wp2_with (go_at_call 77; refine HY.out.mono ?_; rintro e w1 ⟨rfl, hM1⟩; obtain ⟨q0, q1, q2⟩ := HRX.out w1 (HKP.out _ _ hM1); obtain ⟨g0, g1, g2, g3, _⟩ := HCE.out _ w1 hM1)
            have hM1d := hM1.drew
            have hwr : IntKind.i64.wrap ((p : Int) + 1) = (p : Int) + 1 := IntWalk.i64_in _ ⟨by omega, by omega⟩
            clear HRX HKP HY
            go_region_held (fun w1 => w1.cell? ⟨Fb, 0, none⟩ = some (.int .i64 K) ∧ w1.cell? ⟨Fb, 1, none⟩ = some (.int .i64 T) ∧ w1.cell? ⟨Fb, 2, none⟩ = some (.int .i64 i) ∧ w1.cell? ⟨Fb, 3, none⟩ = some (.int .i64 (p : Int)) ∧ w1.cell? ⟨bi, p * 2, none⟩ = some (.int .i64 k1) ∧ w1.cell? ⟨bi, p * 2 + 1, none⟩ = some (.int .i64 t1)) (exact HCE.out _ _ (by assumption)) ((go_at_call 234; (try rw [hwr]); refine (HPU.out w1 hM1).mono ?_; rintro e w2 ⟨rfl, hM2⟩))
            obtain ⟨g0', g1', g2', g3', _⟩ := HCE.out _ w2 hM2
            go_wp2_with (go_at_call 233; refine (HPOP.out w2 hM2).mono ?_; rintro e w3 ⟨ok, k', t', r', m', rfl, ⟨z0, z1, z2, z3⟩, fz, hI'⟩)
            go_roundw
            case rel => exact ⟨_, _, _, _, rfl, rfl, hI'⟩
            case measure => rw [hI'.lenOf, HL.out]; simp; omega
          · obtain ⟨hh', hla'⟩ := hs0 h1 hnx
            have hnx' : ¬ ((tr.count i + 1 : Nat) : Int) < (rs[i].length : Int) := by omega
            have HPOP : Hid (∀ w1, Mid w B Hb w.heap.size Nb Lv Mb n Fb ⟨K, T, (i : Int), ((tr.count i + 1 : Nat) : Int)⟩ xs (got ++ [(K, T)]) w1 → _) := fun w1 hM1 => mid_pop hM1 hHb hn hh' hp hla' hT' hg2 ⟨K, T, (i : Int), ((tr.count i + 1 : Nat) : Int)⟩
            have HRX : Hid (∀ w1, Mid w B Hb w.heap.size Nb Lv Mb n Fb ⟨K, T, (i : Int), ((tr.count i + 1 : Nat) : Int)⟩ xs (got ++ [(K, T)]) w1 → ∃ ai ci, w1.cell? ⟨b, i, none⟩ = some (.slice ai rs[i].length ci) ∧ w1.cell? ⟨Fb, 0, none⟩ = some (.int .i64 K) ∧ w1.cell? ⟨Fb, 1, none⟩ = some (.int .i64 T) ∧ w1.cell? ⟨Fb, 2, none⟩ = some (.int .i64 i) ∧ w1.cell? ⟨Fb, 3, none⟩ = some (.int .i64 ((tr.count i + 1 : Nat) : Int))) := by
              intro w1 hM1
              exact ⟨ai, ci, hc1 w1 hM1.kp, hM1.cells⟩
            clear hs0 hs1 hM hh hp hle hla hT hT' hh' hla' hd hg2 hst hcell hc1 hc2 h2
            generalize rs[i].length = rl at *
            generalize tr.count i + 1 = p at *
            go_wp2_with (first
              | (go_at_call 77; refine HY.out.mono ?_; rintro e w1 ⟨rfl, hM1⟩; obtain ⟨ai, ci, q0, g0, g1, g2, g3⟩ := HRX.out w1 hM1)
              | (go_at_call 233; refine (HPOP.out w1 hM1).mono ?_; rintro e w3 ⟨ok, k', t', r', m', rfl, ⟨z0, z1, z2, z3⟩, fz, hI'⟩))
            go_roundw
            case rel => exact ⟨_, _, _, _, rfl, rfl, hI'⟩
            case measure => rw [hI'.lenOf, HL.out]; simp; omega
        · have hd : decide (n < 1 ∨ (got.length : Int) + 1 < n) = false := by simpa using hgo
          rw [hd] at HY
          have hst2 : Hid (∀ w1, Mid w B Hb w.heap.size Nb Lv Mb n Fb ⟨K, T, (i : Int), ((tr.count i + 1 : Nat) : Int)⟩ xs (got ++ [(K, T)]) w1 → Told w B Nb Lv Mb n rs w1) := fun w1 hM1 => told_stop hM1 hT' (by simp; omega) (by simp)
          clear hs0 hs1 hM hh hp hle hla hT hT' hd hst hcell hc1 hc2
          go_wp2_with (go_at_call 77; refine HY.out.mono ?_; rintro e w1 ⟨rfl, hM1⟩)
          first | go_end0 | refine bodyPost_ret (results_none rfl _ _ _) rfl ?_
          exact ⟨rfl, hst2.out _ hM1⟩
      · cases e
end Go.Proofs.YtibofakbhgmhiabGreatDoor
