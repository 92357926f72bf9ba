import Derived.Test.YtibofakbhgmhiabGreatDoorGA
import Derived.Test.YtibofakbhgmhiabGreatDoorG0
import Derived.Deep.RegionHeld3

namespace Go.Proofs.YtibofakbhgmhiabGreatDoor
open Go.RowKit Go.MuLone

theorem Fc.own {Wb : Nat} {w w' : World} (h : Fc Wb w w') {B : Nat} {e : TypeId} {s : Nat} {v : Value} {n : Nat} {xs : List Value} (ho : w.ownsRow B e s v n xs) (h0 : e ≠ 43) (h1 : e ≠ 126) (h2 : e ≠ 205) (h3 : e ≠ 283) (h4 : e ≠ 112) : w'.ownsRow B e s v n xs := by
  refine ⟨ho.1, ?_⟩
  rcases ho.2 with h | ⟨g, cap, cur, hv, hg, hh, r⟩
  · exact .inl h
  · exact .inr ⟨g, cap, cur, hv, hg, h.block g _ _ _ hh h0 h1 h2 h3 h4, r⟩
/-- what the script has gathered is as it was behind a call of the table -/
theorem KHas.fc {Wb : Nat} {w w' : World} {rr : List (List Int)} {N : Nat} (h : KHas Wb w rr N) (hf : Fc Wb w w') : KHas Wb w' rr N := by
  obtain ⟨cs, ev, pv, rv, ne, np, xe, xp, xr, K⟩ := h
  obtain ⟨cs', e1, e2, e3⟩ := hf.wblk cs K.blk
  exact ⟨cs', ev, pv, rv, ne, np, xe, xp, xr, e1, e2.trans K.size, (e3 8 (by omega)).trans K.e8, (e3 9 (by omega)).trans K.e9, (e3 10 (by omega)).trans K.e10, hf.own K.oe (by decide) (by decide) (by decide) (by decide) (by decide), hf.own K.op (by decide) (by decide) (by decide) (by decide) (by decide), hf.own K.or (by decide) (by decide) (by decide) (by decide) (by decide), fun i hi => by
    obtain ⟨v, h1, h2⟩ := K.rows i hi
    exact ⟨v, h1, hf.own h2 (by decide) (by decide) (by decide) (by decide) (by decide)⟩, K.le, K.lp, K.lr⟩
theorem Fr.own {J : Nat → Prop} {Wb : Nat} {w w' : World} (h : Fr J Wb w w') {B : Nat} {e : TypeId} {s : Nat} {v : Value} {n : Nat} {xs : List Value} (ho : w.ownsRow B e s v n xs) (h0 : e ≠ 43) (h1 : e ≠ 64) (h2 : e ≠ 56) (h3 : e ≠ 66) : w'.ownsRow B e s v n xs := by
  refine ⟨ho.1, ?_⟩
  rcases ho.2 with h' | ⟨g, cap, cur, hv, hg, hh, r⟩
  · exact .inl h'
  · exact .inr ⟨g, cap, cur, hv, hg, h.block g _ _ _ hh h0 h1 h2 h3, r⟩
/-- the table and the book are as they were behind a step that gathers -/
theorem LS.fr {J : Nat → Prop} {Wb : Nat} {w w' : World} {cf : Cf} {M R Tb : Nat} {bk : Bk} {l : List Gr} {dn : Nat → Nat → Bool} {lv tv : Value} {vs : List Value} {N : Nat} (L : LS Wb w cf M R Tb bk l dn lv tv vs N) (hf : Fr J Wb w w') (hJ : ∀ j, J j → j < 11) {rr : List (List Int)} {N' : Nat} (hK : KHas Wb w' rr N') : LS Wb w' cf M R Tb bk l dn lv tv vs (N + 1) := by
  obtain ⟨cs', ev, pv, rv, ne, np, xe, xp, xr, K'⟩ := hK
  have hc : ∀ j, 11 ≤ j → w'.cell? ⟨Wb, j, none⟩ = w.cell? ⟨Wb, j, none⟩ := fun j hj => hf.cell j (fun h => by have := hJ j h; omega)
  have K := L.K
  have T := L.T
  have hg := L.gs
  have hn := L.now
  exact ⟨⟨cs', K'.blk, K'.size⟩, ⟨(hc _ (by omega)).trans K.c0, (hc _ (by omega)).trans K.c1, (hc _ (by omega)).trans K.c2, (hc _ (by omega)).trans K.c3, (hc _ (by omega)).trans K.c4, (hc _ (by omega)).trans K.c5, (hc _ (by omega)).trans K.c6, (hc _ (by omega)).trans K.c7, (hc _ (by omega)).trans K.cl, hf.own K.row (by decide) (by decide) (by decide) (by decide), fun p t hp ht => (hc _ (by omega)).trans (K.cd p t hp ht), (hc _ (by omega)).trans K.cn⟩,
    ⟨hf.block _ _ _ _ T.blk (by decide) (by decide) (by decide) (by decide), hf.own T.ts.row (by decide) (by decide) (by decide) (by decide), T.ts.len, fun k hk hv => hf.own (T.ts.live k hk hv) (by decide) (by decide) (by decide) (by decide), T.ts.dis⟩, L.rel, L.ok, L.hM, L.hR, (hc _ (by omega)).trans L.t, (hc _ (by omega)).trans L.m, by omega, by omega, L.WT⟩
end Go.Proofs.YtibofakbhgmhiabGreatDoor

namespace Go.Proofs.YtibofakbhgmhiabGreatDoor
open Go.RowKit Go.MuLone

set_option maxHeartbeats 2000000 in
set_option maxRecDepth 100000 in
theorem wConfig (Wb : Nat) (cf : Cf) (w : World) (h0 : w.cell? ⟨Wb, 0, none⟩ = some (.int .i64 cf.maps)) (h1 : w.cell? ⟨Wb, 1, none⟩ = some (.int .i64 cf.reds)) (h2 : w.cell? ⟨Wb, 2, none⟩ = some (.int .i64 cf.wrk)) (h3 : w.cell? ⟨Wb, 3, none⟩ = some (.int .i64 cf.att)) (h4 : w.cell? ⟨Wb, 4, none⟩ = some (.int .i64 cf.bck)) (h5 : w.cell? ⟨Wb, 5, none⟩ = some (.int .i64 cf.lease)) (h6 : w.cell? ⟨Wb, 6, none⟩ = some (.int .i64 cf.late)) (h7 : w.cell? ⟨Wb, 7, none⟩ = some (.int .i64 cf.cap)) :
    Calls Tryz.prog 35 #[.pointer (some ⟨Wb, 0, none⟩)] w fun e w' => e = .returned (.agg #[.int .i64 cf.maps, .int .i64 cf.reds, .int .i64 cf.wrk, .int .i64 cf.att, .int .i64 cf.bck, .int .i64 cf.lease, .int .i64 cf.late, .int .i64 cf.cap]) ∧ Below w.heap.size w w' := by
  have hW := hp_lt h0
  have hb0 : Below w.heap.size w (w.alloc (.cells #[.int .i64 0, .int .i64 0, .int .i64 0, .int .i64 0, .int .i64 0, .int .i64 0, .int .i64 0, .int .i64 0] 36)) := (Below.refl _ _).alloc (Nat.le_refl _) _
  have g0 := (World.cell?_alloc_lt w (.cells #[.int .i64 0, .int .i64 0, .int .i64 0, .int .i64 0, .int .i64 0, .int .i64 0, .int .i64 0, .int .i64 0] 36) ⟨Wb, 0, none⟩ hW).trans h0
  have g1 := (World.cell?_alloc_lt w (.cells #[.int .i64 0, .int .i64 0, .int .i64 0, .int .i64 0, .int .i64 0, .int .i64 0, .int .i64 0, .int .i64 0] 36) ⟨Wb, 1, none⟩ hW).trans h1
  have g2 := (World.cell?_alloc_lt w (.cells #[.int .i64 0, .int .i64 0, .int .i64 0, .int .i64 0, .int .i64 0, .int .i64 0, .int .i64 0, .int .i64 0] 36) ⟨Wb, 2, none⟩ hW).trans h2
  have g3 := (World.cell?_alloc_lt w (.cells #[.int .i64 0, .int .i64 0, .int .i64 0, .int .i64 0, .int .i64 0, .int .i64 0, .int .i64 0, .int .i64 0] 36) ⟨Wb, 3, none⟩ hW).trans h3
  have g4 := (World.cell?_alloc_lt w (.cells #[.int .i64 0, .int .i64 0, .int .i64 0, .int .i64 0, .int .i64 0, .int .i64 0, .int .i64 0, .int .i64 0] 36) ⟨Wb, 4, none⟩ hW).trans h4
  have g5 := (World.cell?_alloc_lt w (.cells #[.int .i64 0, .int .i64 0, .int .i64 0, .int .i64 0, .int .i64 0, .int .i64 0, .int .i64 0, .int .i64 0] 36) ⟨Wb, 5, none⟩ hW).trans h5
  have g6 := (World.cell?_alloc_lt w (.cells #[.int .i64 0, .int .i64 0, .int .i64 0, .int .i64 0, .int .i64 0, .int .i64 0, .int .i64 0, .int .i64 0] 36) ⟨Wb, 6, none⟩ hW).trans h6
  have g7 := (World.cell?_alloc_lt w (.cells #[.int .i64 0, .int .i64 0, .int .i64 0, .int .i64 0, .int .i64 0, .int .i64 0, .int .i64 0, .int .i64 0] 36) ⟨Wb, 7, none⟩ hW).trans h7
  have hne : w.heap.size ≠ Wb := by show w.heap.size ≠ Wb; have : Wb < w.heap.size := hW; omega
  have HKP : Hid (∀ o : Obj, (w.alloc o).cell? ⟨Wb, 0, none⟩ = some (.int .i64 cf.maps) ∧ (w.alloc o).cell? ⟨Wb, 1, none⟩ = some (.int .i64 cf.reds) ∧ (w.alloc o).cell? ⟨Wb, 2, none⟩ = some (.int .i64 cf.wrk) ∧ (w.alloc o).cell? ⟨Wb, 3, none⟩ = some (.int .i64 cf.att) ∧ (w.alloc o).cell? ⟨Wb, 4, none⟩ = some (.int .i64 cf.bck) ∧ (w.alloc o).cell? ⟨Wb, 5, none⟩ = some (.int .i64 cf.lease) ∧ (w.alloc o).cell? ⟨Wb, 6, none⟩ = some (.int .i64 cf.late) ∧ (w.alloc o).cell? ⟨Wb, 7, none⟩ = some (.int .i64 cf.cap)) := fun o => ⟨(World.cell?_alloc_lt w o ⟨Wb, 0, none⟩ hW).trans h0, (World.cell?_alloc_lt w o ⟨Wb, 1, none⟩ hW).trans h1, (World.cell?_alloc_lt w o ⟨Wb, 2, none⟩ hW).trans h2, (World.cell?_alloc_lt w o ⟨Wb, 3, none⟩ hW).trans h3, (World.cell?_alloc_lt w o ⟨Wb, 4, none⟩ hW).trans h4, (World.cell?_alloc_lt w o ⟨Wb, 5, none⟩ hW).trans h5, (World.cell?_alloc_lt w o ⟨Wb, 6, none⟩ hW).trans h6, (World.cell?_alloc_lt w o ⟨Wb, 7, none⟩ hW).trans h7⟩
  clear hb0 h0 h1 h2 h3 h4 h5 h6 h7
  go_enter Tryz.func35, Tryz.ntmps35
  go_wp2_with fail
  go_region_held3 (fun W => W.cell? ⟨Wb, 0, none⟩ = some (.int .i64 cf.maps) ∧ W.cell? ⟨Wb, 1, none⟩ = some (.int .i64 cf.reds) ∧ W.cell? ⟨Wb, 2, none⟩ = some (.int .i64 cf.wrk) ∧ W.cell? ⟨Wb, 3, none⟩ = some (.int .i64 cf.att) ∧ W.cell? ⟨Wb, 4, none⟩ = some (.int .i64 cf.bck) ∧ W.cell? ⟨Wb, 5, none⟩ = some (.int .i64 cf.lease) ∧ W.cell? ⟨Wb, 6, none⟩ = some (.int .i64 cf.late) ∧ W.cell? ⟨Wb, 7, none⟩ = some (.int .i64 cf.cap)) (first | exact ⟨g0, g1, g2, g3, g4, g5, g6, g7⟩ | exact HKP.out _ | go_keep) (fail)
  go_wp2_with fail
  exact bodyPost_ret (v := .agg #[.int .i64 cf.maps, .int .i64 cf.reds, .int .i64 cf.wrk, .int .i64 cf.att, .int .i64 cf.bck, .int .i64 cf.lease, .int .i64 cf.late, .int .i64 cf.cap]) (by simp [results, Tryz.results35, go_sem]) rfl ⟨rfl, ((Below.refl _ _).alloc (Nat.le_refl _) _).drew⟩
end Go.Proofs.YtibofakbhgmhiabGreatDoor

namespace Go.Proofs.YtibofakbhgmhiabGreatDoor
open Go.RowKit Go.MuLone

set_option maxHeartbeats 1000000 in
set_option maxRecDepth 100000 in
/-- a call where the config made no table -/
theorem callNil (Wb : Nat) (w : World) (A B C : Int) (s t : ByteArray) (h11 : w.cell? ⟨Wb, 11, none⟩ = some (.pointer none)) (h12 : w.cell? ⟨Wb, 12, none⟩ = some (.bool true)) :
    Calls Tryz.prog 25 #[.pointer (some ⟨Wb, 0, none⟩), .agg #[.int .i64 9, .int .i64 A, .int .i64 B, .int .i64 C, .string s, .string t]] w fun e w' => e = .returned (.bool true) ∧ Below w.heap.size w w' := by
  have hbo : Below w.heap.size w (w.alloc (.cells #[.int .i64 9, .int .i64 A, .int .i64 B, .int .i64 C, .string s, .string t] 45)) := (Below.refl _ _).alloc (Nat.le_refl _) _
  have c11 := (World.cell?_alloc_lt w (.cells #[.int .i64 9, .int .i64 A, .int .i64 B, .int .i64 C, .string s, .string t] 45) _ (hp_lt h11)).trans h11
  have c12 := (World.cell?_alloc_lt w (.cells #[.int .i64 9, .int .i64 A, .int .i64 B, .int .i64 C, .string s, .string t] 45) _ (hp_lt h12)).trans h12
  clear h11 h12
  go_enter Tryz.func25, Tryz.ntmps25
  go_wp2
  go_ret
  exact ⟨rfl, hbo⟩
end Go.Proofs.YtibofakbhgmhiabGreatDoor

namespace Go.Proofs.YtibofakbhgmhiabGreatDoor
open Go.RowKit Go.MuLone

def cf0 : Cf := ⟨1, 1, 1, 2, 0, 9, 0, 999⟩
def bk1 : Bk := ⟨1, [⟨false, 1, [⟨1, 0, 0, 0⟩]⟩], 1, 0, false⟩
theorem cf0_ok : cf0.ok := by unfold Cf.ok cf0; decide

set_option maxHeartbeats 1000000 in
set_option maxRecDepth 100000 in
theorem alive (w : World) (a : Nat → Addr) (S : SL w.heap.size w a) :
    Calls Tryz.prog 7 #[] w fun e w' => e = .returned (.bool true) ∧ Below w.heap.size w w' := by
  have HN : Hid (Calls Tryz.prog 12 #[.agg #[.int .i64 1, .int .i64 1, .int .i64 1, .int .i64 2, .int .i64 0, .int .i64 9, .int .i64 0, .int .i64 999]] (w.alloc (.cells #[.int .i64 1, .int .i64 1, .int .i64 1, .int .i64 2, .int .i64 0, .int .i64 9, .int .i64 0, .int .i64 999] 36)) fun e w1 => ∃ Tb, e = .returned (.tuple #[.pointer (some ⟨Tb, 0, none⟩), .int .i64 0]) ∧ Calls Tryz.prog 13 #[.pointer (some ⟨Tb, 0, none⟩)] w1 fun e w2 => e = .returned (.tuple #[.agg #[.int .i64 1, .int .i64 0, .int .i64 1, .bool false], .int .i64 0]) ∧ Calls Tryz.prog 14 #[.pointer (some ⟨Tb, 0, none⟩), .int .i64 1] (w2.alloc (.cells #[.int .i64 1, .int .i64 0, .int .i64 1, .bool false] 50)) fun e w3 => e = .returned (.int .i64 0) ∧ Hid (Below w.heap.size w w3)) := by
    have hb0 : Below w.heap.size w (w.alloc (.cells #[.int .i64 1, .int .i64 1, .int .i64 1, .int .i64 2, .int .i64 0, .int .i64 9, .int .i64 0, .int .i64 999] 36)) := (Below.refl _ _).alloc (Nat.le_refl _) _
    refine (pNewTable cf0 1 rfl cf0_ok _).mono ?_
    rintro e w1 ⟨Tb, rfl, hle, ⟨tv, vs, hT⟩, hb1⟩
    have hsz : (w.alloc (.cells #[.int .i64 1, .int .i64 1, .int .i64 1, .int .i64 2, .int .i64 0, .int .i64 9, .int .i64 0, .int .i64 999] 36)).heap.size = w.heap.size + 1 := by simp
    rw [hsz] at hle hT hb1
    have hT := hT.mono (B' := w.heap.size) (by omega)
    have hbw : Below w.heap.size w w1 := hb0.trans (hb1.mono (by omega))
    have S1 := S.low hbw
    have hTl := lt_of_block hT.blk
    have hs1 := hbw.size
    refine ⟨Tb, rfl, (pReqC hT (by omega) a S1 (by simp) (by simp) (fun t ht => by simp [fresh] at ht; subst ht; simp) (fun t ht => by simp [fresh] at ht; subst ht; simp) rfl (by simp)).mono ?_⟩
    rintro e w2 (⟨_, hid, _⟩ | ⟨k, b, hk, rfl, hcase, hS⟩)
    · have := hid 0 (by simp)
      simp [fresh, Tk.idle] at this
    · have hk0 : k = 0 := by simpa using hk
      subst hk0
      have hbf : b = false := by
        rcases hcase with ⟨h, _⟩ | ⟨_, hid, _⟩
        · exact h
        · have := hid 0 (by simp)
          simp [fresh, Tk.idle] at this
      subst hbf
      have eb : (⟨1, List.replicate 1 fresh, 0, 0, false⟩ : Bk).granted 0 ((⟨1, List.replicate 1 fresh, 0, 0, false⟩ : Bk).ts[0]'hk) = bk1 := rfl
      rw [eb] at hS
      refine ⟨rfl, ?_⟩
      have hlt2 := hS.lt
      have hS2 := hS.below (by omega) ((Below.refl w2.heap.size w2).alloc (Nat.le_refl _) (.cells #[.int .i64 1, .int .i64 0, .int .i64 1, .bool false] 50))
      obtain ⟨⟨tv2, vs2, hT2⟩, lo2, _⟩ := hS2
      refine (pCommit hT2 (by omega) 1 a (S1.low lo2) (by simp [bk1]) (fun t ht => by simp [bk1] at ht; subst ht; simp) 1 rfl (by omega)).mono ?_
      rintro e w3 ⟨n, e0, bk', rfl, hn, hr, hS3⟩
      have hh : bk1.has 1 0 0 := ⟨by simp [bk1], by simp [bk1], by simp [bk1]⟩
      rcases hr with ⟨⟨hno, _⟩ | ⟨_, hno, _⟩, _⟩ | ⟨_, rfl, _⟩
      · exact absurd (by simp [bk1]) hno
      · exact absurd hh (hno 0 0)
      · have := errN_nil hn
        subst this
        exact ⟨rfl, (hbw.trans lo2).trans hS3.2.1⟩
  clear S
  go_enter Tryz.func7, Tryz.ntmps7
  go_wp2_with (first | (go_at_call 12; refine HN.out.mono ?_; rintro e w1 ⟨Tb, rfl, HA⟩) | (go_at_call 13; refine HA.mono ?_; rintro e w2 ⟨rfl, HB⟩) | (go_at_call 14; refine HB.mono ?_; rintro e w3 ⟨rfl, hfin⟩))
  go_ret
  exact ⟨rfl, hfin.out⟩
end Go.Proofs.YtibofakbhgmhiabGreatDoor

namespace Go.Proofs.YtibofakbhgmhiabGreatDoor
open Go.RowKit Go.MuLone

/-- the statement's world while no table is made -/
structure NM (Wb : Nat) (w : World) (cf : Cf) (cs : Array Value) : Prop where
  blk : w.heap[Wb]? = some (.cells cs 43 (0, 0))
  size : cs.size = 71
  n0 : cs[0]? = some (.int .i64 cf.maps)
  n1 : cs[1]? = some (.int .i64 cf.reds)
  n2 : cs[2]? = some (.int .i64 cf.wrk)
  n3 : cs[3]? = some (.int .i64 cf.att)
  n4 : cs[4]? = some (.int .i64 cf.bck)
  n5 : cs[5]? = some (.int .i64 cf.lease)
  n6 : cs[6]? = some (.int .i64 cf.late)
  n7 : cs[7]? = some (.int .i64 cf.cap)
  c11 : cs[11]? = some (.pointer none)
  c12 : cs[12]? = some (.bool false)
  z : ∀ j, 13 ≤ j → j < 21 → cs[j]? = some (.int .i64 0)
  c21 : cs[21]? = some (.slice none 0 0)
  cd : ∀ j, 22 ≤ j → j < 70 → cs[j]? = some (.bool false)
  cn : cs[70]? = some (.int .i64 0)
def bk0 (M : Nat) : Bk := ⟨1, List.replicate M fresh, 0, 0, false⟩
/-- behind the making of the table -/
def PW (Wb : Nat) (w : World) (cf : Cf) (M R N : Nat) (o : Obj) (wc : World) : Prop :=
  ∃ Tb tv vs, LS Wb wc cf M R Tb (bk0 M) [] (fun _ _ => false) (.slice none 0 0) tv vs N ∧ Below Wb w wc ∧ Fc Wb w wc ∧ wc.heap[w.heap.size]? = some o
theorem NM.cell {Wb : Nat} {w : World} {cf : Cf} {cs : Array Value} (U : NM Wb w cf cs) (j : Nat) : w.cell? ⟨Wb, j, none⟩ = cs[j]? := by simp [World.cell?, U.blk]
theorem frozen_put {Wb i : Nat} {w : World} {cs : Array Value} {e : TypeId} (h : w.heap[Wb]? = some (.cells cs e (0, 0))) : w.frozen? ⟨Wb, i, none⟩ = false := by simp [World.frozen?, h]
theorem cell_of {Wb j : Nat} {w : World} {cs : Array Value} {e : TypeId} (h : w.heap[Wb]? = some (.cells cs e (0, 0))) : w.cell? ⟨Wb, j, none⟩ = cs[j]? := by simp [World.cell?, h]

theorem NM.made {Wb : Nat} {w : World} {cf : Cf} {cs : Array Value} (U : NM Wb w cf cs) (ok : cf.ok) {M R : Nat} (hM : cf.maps = (M : Int)) (hR : cf.reds = (R : Int)) (o : Obj) (N : Nat) {w3 : World} (hb : Below (w.heap.size + 1) ((w.setCell ⟨Wb, 12, none⟩ (.bool true)).alloc o) w3) {B3 Tb : Nat} {tv : Value} {vs : List Value} (hT : TbAt B3 Tb 0 cf w3 (bk0 M) tv vs) (hB : Wb ≤ B3) (hTb : Wb ≤ Tb) :
    PW Wb w cf M R N o (((((((((w3.setCell ⟨Wb, 13, none⟩ (.int .i64 cf.maps)).setCell ⟨Wb, 14, none⟩ (.int .i64 cf.reds)).setCell ⟨Wb, 15, none⟩ (.int .i64 cf.wrk)).setCell ⟨Wb, 16, none⟩ (.int .i64 cf.att)).setCell ⟨Wb, 17, none⟩ (.int .i64 cf.bck)).setCell ⟨Wb, 18, none⟩ (.int .i64 cf.lease)).setCell ⟨Wb, 19, none⟩ (.int .i64 cf.late)).setCell ⟨Wb, 20, none⟩ (.int .i64 cf.cap)).setCell ⟨Wb, 11, none⟩ (.pointer (some ⟨Tb, 0, none⟩))) := by
  have hWl := lt_of_block U.blk
  have hsw : (w.setCell ⟨Wb, 12, none⟩ (.bool true)).heap.size = w.heap.size := by simp [World.setCell]
  have a1 := put_block (j := 12) (v := .bool true) U.blk
  have a2 : ((w.setCell ⟨Wb, 12, none⟩ (.bool true)).alloc o).heap[Wb]? = _ := (Below.heap_alloc _ o Wb (by rw [hsw]; exact hWl)).trans a1
  have e0 : w3.heap[Wb]? = _ := (hb.block Wb (by omega)).trans a2
  have ho : w3.heap[w.heap.size]? = some o := by
    rw [hb.block _ (by omega)]
    have := alloc_at (w.setCell ⟨Wb, 12, none⟩ (.bool true)) o
    rw [hsw] at this
    exact this
  have e1 := put_block (j := 13) (v := (.int .i64 cf.maps)) e0
  have e2 := put_block (j := 14) (v := (.int .i64 cf.reds)) e1
  have e3 := put_block (j := 15) (v := (.int .i64 cf.wrk)) e2
  have e4 := put_block (j := 16) (v := (.int .i64 cf.att)) e3
  have e5 := put_block (j := 17) (v := (.int .i64 cf.bck)) e4
  have e6 := put_block (j := 18) (v := (.int .i64 cf.lease)) e5
  have e7 := put_block (j := 19) (v := (.int .i64 cf.late)) e6
  have e8 := put_block (j := 20) (v := (.int .i64 cf.cap)) e7
  have e9 := put_block (j := 11) (v := (.pointer (some ⟨Tb, 0, none⟩))) e8
  have T0 := hT.mono hB
  have T1 := T0.other (j := 13) e0 (by decide) (by decide) (by decide) (.int .i64 cf.maps)
  have T2 := T1.other (j := 14) e1 (by decide) (by decide) (by decide) (.int .i64 cf.reds)
  have T3 := T2.other (j := 15) e2 (by decide) (by decide) (by decide) (.int .i64 cf.wrk)
  have T4 := T3.other (j := 16) e3 (by decide) (by decide) (by decide) (.int .i64 cf.att)
  have T5 := T4.other (j := 17) e4 (by decide) (by decide) (by decide) (.int .i64 cf.bck)
  have T6 := T5.other (j := 18) e5 (by decide) (by decide) (by decide) (.int .i64 cf.lease)
  have T7 := T6.other (j := 19) e6 (by decide) (by decide) (by decide) (.int .i64 cf.late)
  have T8 := T7.other (j := 20) e7 (by decide) (by decide) (by decide) (.int .i64 cf.cap)
  have T9 := T8.other (j := 11) e8 (by decide) (by decide) (by decide) (.pointer (some ⟨Tb, 0, none⟩))
  have F0 : Fc Wb w w3 := ((Fc.put U.blk 12 (by omega) (.bool true)).trans (Fc.of_below ((Below.refl _ _).alloc (Nat.le_refl _) o))).trans (Fc.of_below (by rw [show ((w.setCell ⟨Wb, 12, none⟩ (.bool true)).alloc o).heap.size = w.heap.size + 1 from by simp [World.setCell]]; exact hb))
  have F1 := F0.trans (Fc.put e0 13 (by omega) (.int .i64 cf.maps))
  have F2 := F1.trans (Fc.put e1 14 (by omega) (.int .i64 cf.reds))
  have F3 := F2.trans (Fc.put e2 15 (by omega) (.int .i64 cf.wrk))
  have F4 := F3.trans (Fc.put e3 16 (by omega) (.int .i64 cf.att))
  have F5 := F4.trans (Fc.put e4 17 (by omega) (.int .i64 cf.bck))
  have F6 := F5.trans (Fc.put e5 18 (by omega) (.int .i64 cf.lease))
  have F7 := F6.trans (Fc.put e6 19 (by omega) (.int .i64 cf.late))
  have F8 := F7.trans (Fc.put e7 20 (by omega) (.int .i64 cf.cap))
  have F9 := F8.trans (Fc.put e8 11 (by omega) (.pointer (some ⟨Tb, 0, none⟩)))
  have B0 : Below Wb w w3 := (((Below.refl Wb w).setCell (p := ⟨Wb, 12, none⟩) (Nat.le_refl _) (.bool true)).trans (((Below.refl _ _).alloc (Nat.le_refl _) o).mono (by rw [hsw]; exact Nat.le_of_lt hWl))).trans (hb.mono (by omega))
  have B1 := B0.setCell (p := ⟨Wb, 13, none⟩) (Nat.le_refl _) (.int .i64 cf.maps)
  have B2 := B1.setCell (p := ⟨Wb, 14, none⟩) (Nat.le_refl _) (.int .i64 cf.reds)
  have B3 := B2.setCell (p := ⟨Wb, 15, none⟩) (Nat.le_refl _) (.int .i64 cf.wrk)
  have B4 := B3.setCell (p := ⟨Wb, 16, none⟩) (Nat.le_refl _) (.int .i64 cf.att)
  have B5 := B4.setCell (p := ⟨Wb, 17, none⟩) (Nat.le_refl _) (.int .i64 cf.bck)
  have B6 := B5.setCell (p := ⟨Wb, 18, none⟩) (Nat.le_refl _) (.int .i64 cf.lease)
  have B7 := B6.setCell (p := ⟨Wb, 19, none⟩) (Nat.le_refl _) (.int .i64 cf.late)
  have B8 := B7.setCell (p := ⟨Wb, 20, none⟩) (Nat.le_refl _) (.int .i64 cf.cap)
  have B9 := B8.setCell (p := ⟨Wb, 11, none⟩) (Nat.le_refl _) (.pointer (some ⟨Tb, 0, none⟩))
  have cc : ∀ j, 21 ≤ j → (((((((((w3.setCell ⟨Wb, 13, none⟩ (.int .i64 cf.maps)).setCell ⟨Wb, 14, none⟩ (.int .i64 cf.reds)).setCell ⟨Wb, 15, none⟩ (.int .i64 cf.wrk)).setCell ⟨Wb, 16, none⟩ (.int .i64 cf.att)).setCell ⟨Wb, 17, none⟩ (.int .i64 cf.bck)).setCell ⟨Wb, 18, none⟩ (.int .i64 cf.lease)).setCell ⟨Wb, 19, none⟩ (.int .i64 cf.late)).setCell ⟨Wb, 20, none⟩ (.int .i64 cf.cap)).setCell ⟨Wb, 11, none⟩ (.pointer (some ⟨Tb, 0, none⟩))).cell? ⟨Wb, j, none⟩ = cs[j]? := fun j hj => by
    rw [cell_of e9, set_other (i := 11) (by omega), set_other (i := 20) (by omega), set_other (i := 19) (by omega), set_other (i := 18) (by omega), set_other (i := 17) (by omega), set_other (i := 16) (by omega), set_other (i := 15) (by omega), set_other (i := 14) (by omega), set_other (i := 13) (by omega), set_other (i := 12) (by omega)]
  have q12 : (((((((((w3.setCell ⟨Wb, 13, none⟩ (.int .i64 cf.maps)).setCell ⟨Wb, 14, none⟩ (.int .i64 cf.reds)).setCell ⟨Wb, 15, none⟩ (.int .i64 cf.wrk)).setCell ⟨Wb, 16, none⟩ (.int .i64 cf.att)).setCell ⟨Wb, 17, none⟩ (.int .i64 cf.bck)).setCell ⟨Wb, 18, none⟩ (.int .i64 cf.lease)).setCell ⟨Wb, 19, none⟩ (.int .i64 cf.late)).setCell ⟨Wb, 20, none⟩ (.int .i64 cf.cap)).setCell ⟨Wb, 11, none⟩ (.pointer (some ⟨Tb, 0, none⟩))).cell? ⟨Wb, 12, none⟩ = some (.bool true) := by rw [cell_of e9]; simp [U.size]
  have q13 : (((((((((w3.setCell ⟨Wb, 13, none⟩ (.int .i64 cf.maps)).setCell ⟨Wb, 14, none⟩ (.int .i64 cf.reds)).setCell ⟨Wb, 15, none⟩ (.int .i64 cf.wrk)).setCell ⟨Wb, 16, none⟩ (.int .i64 cf.att)).setCell ⟨Wb, 17, none⟩ (.int .i64 cf.bck)).setCell ⟨Wb, 18, none⟩ (.int .i64 cf.lease)).setCell ⟨Wb, 19, none⟩ (.int .i64 cf.late)).setCell ⟨Wb, 20, none⟩ (.int .i64 cf.cap)).setCell ⟨Wb, 11, none⟩ (.pointer (some ⟨Tb, 0, none⟩))).cell? ⟨Wb, 13, none⟩ = some (.int .i64 cf.maps) := by rw [cell_of e9]; simp [U.size]
  have q14 : (((((((((w3.setCell ⟨Wb, 13, none⟩ (.int .i64 cf.maps)).setCell ⟨Wb, 14, none⟩ (.int .i64 cf.reds)).setCell ⟨Wb, 15, none⟩ (.int .i64 cf.wrk)).setCell ⟨Wb, 16, none⟩ (.int .i64 cf.att)).setCell ⟨Wb, 17, none⟩ (.int .i64 cf.bck)).setCell ⟨Wb, 18, none⟩ (.int .i64 cf.lease)).setCell ⟨Wb, 19, none⟩ (.int .i64 cf.late)).setCell ⟨Wb, 20, none⟩ (.int .i64 cf.cap)).setCell ⟨Wb, 11, none⟩ (.pointer (some ⟨Tb, 0, none⟩))).cell? ⟨Wb, 14, none⟩ = some (.int .i64 cf.reds) := by rw [cell_of e9]; simp [U.size]
  have q15 : (((((((((w3.setCell ⟨Wb, 13, none⟩ (.int .i64 cf.maps)).setCell ⟨Wb, 14, none⟩ (.int .i64 cf.reds)).setCell ⟨Wb, 15, none⟩ (.int .i64 cf.wrk)).setCell ⟨Wb, 16, none⟩ (.int .i64 cf.att)).setCell ⟨Wb, 17, none⟩ (.int .i64 cf.bck)).setCell ⟨Wb, 18, none⟩ (.int .i64 cf.lease)).setCell ⟨Wb, 19, none⟩ (.int .i64 cf.late)).setCell ⟨Wb, 20, none⟩ (.int .i64 cf.cap)).setCell ⟨Wb, 11, none⟩ (.pointer (some ⟨Tb, 0, none⟩))).cell? ⟨Wb, 15, none⟩ = some (.int .i64 cf.wrk) := by rw [cell_of e9]; simp [U.size]
  have q16 : (((((((((w3.setCell ⟨Wb, 13, none⟩ (.int .i64 cf.maps)).setCell ⟨Wb, 14, none⟩ (.int .i64 cf.reds)).setCell ⟨Wb, 15, none⟩ (.int .i64 cf.wrk)).setCell ⟨Wb, 16, none⟩ (.int .i64 cf.att)).setCell ⟨Wb, 17, none⟩ (.int .i64 cf.bck)).setCell ⟨Wb, 18, none⟩ (.int .i64 cf.lease)).setCell ⟨Wb, 19, none⟩ (.int .i64 cf.late)).setCell ⟨Wb, 20, none⟩ (.int .i64 cf.cap)).setCell ⟨Wb, 11, none⟩ (.pointer (some ⟨Tb, 0, none⟩))).cell? ⟨Wb, 16, none⟩ = some (.int .i64 cf.att) := by rw [cell_of e9]; simp [U.size]
  have q17 : (((((((((w3.setCell ⟨Wb, 13, none⟩ (.int .i64 cf.maps)).setCell ⟨Wb, 14, none⟩ (.int .i64 cf.reds)).setCell ⟨Wb, 15, none⟩ (.int .i64 cf.wrk)).setCell ⟨Wb, 16, none⟩ (.int .i64 cf.att)).setCell ⟨Wb, 17, none⟩ (.int .i64 cf.bck)).setCell ⟨Wb, 18, none⟩ (.int .i64 cf.lease)).setCell ⟨Wb, 19, none⟩ (.int .i64 cf.late)).setCell ⟨Wb, 20, none⟩ (.int .i64 cf.cap)).setCell ⟨Wb, 11, none⟩ (.pointer (some ⟨Tb, 0, none⟩))).cell? ⟨Wb, 17, none⟩ = some (.int .i64 cf.bck) := by rw [cell_of e9]; simp [U.size]
  have q18 : (((((((((w3.setCell ⟨Wb, 13, none⟩ (.int .i64 cf.maps)).setCell ⟨Wb, 14, none⟩ (.int .i64 cf.reds)).setCell ⟨Wb, 15, none⟩ (.int .i64 cf.wrk)).setCell ⟨Wb, 16, none⟩ (.int .i64 cf.att)).setCell ⟨Wb, 17, none⟩ (.int .i64 cf.bck)).setCell ⟨Wb, 18, none⟩ (.int .i64 cf.lease)).setCell ⟨Wb, 19, none⟩ (.int .i64 cf.late)).setCell ⟨Wb, 20, none⟩ (.int .i64 cf.cap)).setCell ⟨Wb, 11, none⟩ (.pointer (some ⟨Tb, 0, none⟩))).cell? ⟨Wb, 18, none⟩ = some (.int .i64 cf.lease) := by rw [cell_of e9]; simp [U.size]
  have q19 : (((((((((w3.setCell ⟨Wb, 13, none⟩ (.int .i64 cf.maps)).setCell ⟨Wb, 14, none⟩ (.int .i64 cf.reds)).setCell ⟨Wb, 15, none⟩ (.int .i64 cf.wrk)).setCell ⟨Wb, 16, none⟩ (.int .i64 cf.att)).setCell ⟨Wb, 17, none⟩ (.int .i64 cf.bck)).setCell ⟨Wb, 18, none⟩ (.int .i64 cf.lease)).setCell ⟨Wb, 19, none⟩ (.int .i64 cf.late)).setCell ⟨Wb, 20, none⟩ (.int .i64 cf.cap)).setCell ⟨Wb, 11, none⟩ (.pointer (some ⟨Tb, 0, none⟩))).cell? ⟨Wb, 19, none⟩ = some (.int .i64 cf.late) := by rw [cell_of e9]; simp [U.size]
  have q20 : (((((((((w3.setCell ⟨Wb, 13, none⟩ (.int .i64 cf.maps)).setCell ⟨Wb, 14, none⟩ (.int .i64 cf.reds)).setCell ⟨Wb, 15, none⟩ (.int .i64 cf.wrk)).setCell ⟨Wb, 16, none⟩ (.int .i64 cf.att)).setCell ⟨Wb, 17, none⟩ (.int .i64 cf.bck)).setCell ⟨Wb, 18, none⟩ (.int .i64 cf.lease)).setCell ⟨Wb, 19, none⟩ (.int .i64 cf.late)).setCell ⟨Wb, 20, none⟩ (.int .i64 cf.cap)).setCell ⟨Wb, 11, none⟩ (.pointer (some ⟨Tb, 0, none⟩))).cell? ⟨Wb, 20, none⟩ = some (.int .i64 cf.cap) := by rw [cell_of e9]; simp [U.size]
  have q11 : (((((((((w3.setCell ⟨Wb, 13, none⟩ (.int .i64 cf.maps)).setCell ⟨Wb, 14, none⟩ (.int .i64 cf.reds)).setCell ⟨Wb, 15, none⟩ (.int .i64 cf.wrk)).setCell ⟨Wb, 16, none⟩ (.int .i64 cf.att)).setCell ⟨Wb, 17, none⟩ (.int .i64 cf.bck)).setCell ⟨Wb, 18, none⟩ (.int .i64 cf.lease)).setCell ⟨Wb, 19, none⟩ (.int .i64 cf.late)).setCell ⟨Wb, 20, none⟩ (.int .i64 cf.cap)).setCell ⟨Wb, 11, none⟩ (.pointer (some ⟨Tb, 0, none⟩))).cell? ⟨Wb, 11, none⟩ = some (.pointer (some ⟨Tb, 0, none⟩)) := by rw [cell_of e9]; simp [U.size]
  have ob : (((((((((w3.setCell ⟨Wb, 13, none⟩ (.int .i64 cf.maps)).setCell ⟨Wb, 14, none⟩ (.int .i64 cf.reds)).setCell ⟨Wb, 15, none⟩ (.int .i64 cf.wrk)).setCell ⟨Wb, 16, none⟩ (.int .i64 cf.att)).setCell ⟨Wb, 17, none⟩ (.int .i64 cf.bck)).setCell ⟨Wb, 18, none⟩ (.int .i64 cf.lease)).setCell ⟨Wb, 19, none⟩ (.int .i64 cf.late)).setCell ⟨Wb, 20, none⟩ (.int .i64 cf.cap)).setCell ⟨Wb, 11, none⟩ (.pointer (some ⟨Tb, 0, none⟩))).heap[w.heap.size]? = some o := by
    rw [Below.heap_setCell _ ⟨Wb, 11, none⟩ _ _ (by show w.heap.size ≠ Wb; omega), Below.heap_setCell _ ⟨Wb, 20, none⟩ _ _ (by show w.heap.size ≠ Wb; omega), Below.heap_setCell _ ⟨Wb, 19, none⟩ _ _ (by show w.heap.size ≠ Wb; omega), Below.heap_setCell _ ⟨Wb, 18, none⟩ _ _ (by show w.heap.size ≠ Wb; omega), Below.heap_setCell _ ⟨Wb, 17, none⟩ _ _ (by show w.heap.size ≠ Wb; omega), Below.heap_setCell _ ⟨Wb, 16, none⟩ _ _ (by show w.heap.size ≠ Wb; omega), Below.heap_setCell _ ⟨Wb, 15, none⟩ _ _ (by show w.heap.size ≠ Wb; omega), Below.heap_setCell _ ⟨Wb, 14, none⟩ _ _ (by show w.heap.size ≠ Wb; omega), Below.heap_setCell _ ⟨Wb, 13, none⟩ _ _ (by show w.heap.size ≠ Wb; omega)]; exact ho
  have oM := ok.1
  rw [hM] at oM
  refine ⟨Tb, tv, vs, ⟨⟨_, e9, by simp [U.size]⟩, ⟨q13, q14, q15, q16, q17, q18, q19, q20, (cc 21 (by omega)).trans U.c21, World.ownsRow_nil _ _ _ _, fun p t hp ht => (cc _ (by omega)).trans (U.cd _ (by omega) (by omega)), (cc 70 (by omega)).trans U.cn⟩, T9, Rel.start (by omega) ok.2.2.2.1.1, ok, hM, hR, q11, q12, Nat.zero_le _, Nat.zero_le _, hTb⟩, B9, F9, ob⟩

theorem NM.unmade {Wb : Nat} {w : World} {cf : Cf} {cs : Array Value} (U : NM Wb w cf cs) (o : Obj) {w3 : World} (hb : Below (w.heap.size + 1) ((w.setCell ⟨Wb, 12, none⟩ (.bool true)).alloc o) w3) :
    (((((((((((w3.setCell ⟨Wb, 13, none⟩ (.int .i64 cf.maps)).setCell ⟨Wb, 14, none⟩ (.int .i64 cf.reds)).setCell ⟨Wb, 15, none⟩ (.int .i64 cf.wrk)).setCell ⟨Wb, 16, none⟩ (.int .i64 cf.att)).setCell ⟨Wb, 17, none⟩ (.int .i64 cf.bck)).setCell ⟨Wb, 18, none⟩ (.int .i64 cf.lease)).setCell ⟨Wb, 19, none⟩ (.int .i64 cf.late)).setCell ⟨Wb, 20, none⟩ (.int .i64 cf.cap)).setCell ⟨Wb, 11, none⟩ (.pointer none))).cell? ⟨Wb, 11, none⟩ = some (.pointer none) ∧ ((((((((((w3.setCell ⟨Wb, 13, none⟩ (.int .i64 cf.maps)).setCell ⟨Wb, 14, none⟩ (.int .i64 cf.reds)).setCell ⟨Wb, 15, none⟩ (.int .i64 cf.wrk)).setCell ⟨Wb, 16, none⟩ (.int .i64 cf.att)).setCell ⟨Wb, 17, none⟩ (.int .i64 cf.bck)).setCell ⟨Wb, 18, none⟩ (.int .i64 cf.lease)).setCell ⟨Wb, 19, none⟩ (.int .i64 cf.late)).setCell ⟨Wb, 20, none⟩ (.int .i64 cf.cap)).setCell ⟨Wb, 11, none⟩ (.pointer none))).cell? ⟨Wb, 12, none⟩ = some (.bool true)) ∧ Below Wb w (((((((((w3.setCell ⟨Wb, 13, none⟩ (.int .i64 cf.maps)).setCell ⟨Wb, 14, none⟩ (.int .i64 cf.reds)).setCell ⟨Wb, 15, none⟩ (.int .i64 cf.wrk)).setCell ⟨Wb, 16, none⟩ (.int .i64 cf.att)).setCell ⟨Wb, 17, none⟩ (.int .i64 cf.bck)).setCell ⟨Wb, 18, none⟩ (.int .i64 cf.lease)).setCell ⟨Wb, 19, none⟩ (.int .i64 cf.late)).setCell ⟨Wb, 20, none⟩ (.int .i64 cf.cap)).setCell ⟨Wb, 11, none⟩ (.pointer none)) ∧ Fc Wb w (((((((((w3.setCell ⟨Wb, 13, none⟩ (.int .i64 cf.maps)).setCell ⟨Wb, 14, none⟩ (.int .i64 cf.reds)).setCell ⟨Wb, 15, none⟩ (.int .i64 cf.wrk)).setCell ⟨Wb, 16, none⟩ (.int .i64 cf.att)).setCell ⟨Wb, 17, none⟩ (.int .i64 cf.bck)).setCell ⟨Wb, 18, none⟩ (.int .i64 cf.lease)).setCell ⟨Wb, 19, none⟩ (.int .i64 cf.late)).setCell ⟨Wb, 20, none⟩ (.int .i64 cf.cap)).setCell ⟨Wb, 11, none⟩ (.pointer none)) := by
  have hWl := lt_of_block U.blk
  have hsw : (w.setCell ⟨Wb, 12, none⟩ (.bool true)).heap.size = w.heap.size := by simp [World.setCell]
  have a1 := put_block (j := 12) (v := .bool true) U.blk
  have a2 : ((w.setCell ⟨Wb, 12, none⟩ (.bool true)).alloc o).heap[Wb]? = _ := (Below.heap_alloc _ o Wb (by rw [hsw]; exact hWl)).trans a1
  have e0 : w3.heap[Wb]? = _ := (hb.block Wb (by omega)).trans a2
  have e1 := put_block (j := 13) (v := (.int .i64 cf.maps)) e0
  have e2 := put_block (j := 14) (v := (.int .i64 cf.reds)) e1
  have e3 := put_block (j := 15) (v := (.int .i64 cf.wrk)) e2
  have e4 := put_block (j := 16) (v := (.int .i64 cf.att)) e3
  have e5 := put_block (j := 17) (v := (.int .i64 cf.bck)) e4
  have e6 := put_block (j := 18) (v := (.int .i64 cf.lease)) e5
  have e7 := put_block (j := 19) (v := (.int .i64 cf.late)) e6
  have e8 := put_block (j := 20) (v := (.int .i64 cf.cap)) e7
  have e9 := put_block (j := 11) (v := (.pointer none)) e8
  have F0 : Fc Wb w w3 := ((Fc.put U.blk 12 (by omega) (.bool true)).trans (Fc.of_below ((Below.refl _ _).alloc (Nat.le_refl _) o))).trans (Fc.of_below (by rw [show ((w.setCell ⟨Wb, 12, none⟩ (.bool true)).alloc o).heap.size = w.heap.size + 1 from by simp [World.setCell]]; exact hb))
  have F1 := F0.trans (Fc.put e0 13 (by omega) (.int .i64 cf.maps))
  have F2 := F1.trans (Fc.put e1 14 (by omega) (.int .i64 cf.reds))
  have F3 := F2.trans (Fc.put e2 15 (by omega) (.int .i64 cf.wrk))
  have F4 := F3.trans (Fc.put e3 16 (by omega) (.int .i64 cf.att))
  have F5 := F4.trans (Fc.put e4 17 (by omega) (.int .i64 cf.bck))
  have F6 := F5.trans (Fc.put e5 18 (by omega) (.int .i64 cf.lease))
  have F7 := F6.trans (Fc.put e6 19 (by omega) (.int .i64 cf.late))
  have F8 := F7.trans (Fc.put e7 20 (by omega) (.int .i64 cf.cap))
  have F9 := F8.trans (Fc.put e8 11 (by omega) (.pointer none))
  have B0 : Below Wb w w3 := (((Below.refl Wb w).setCell (p := ⟨Wb, 12, none⟩) (Nat.le_refl _) (.bool true)).trans (((Below.refl _ _).alloc (Nat.le_refl _) o).mono (by rw [hsw]; exact Nat.le_of_lt hWl))).trans (hb.mono (by omega))
  have B1 := B0.setCell (p := ⟨Wb, 13, none⟩) (Nat.le_refl _) (.int .i64 cf.maps)
  have B2 := B1.setCell (p := ⟨Wb, 14, none⟩) (Nat.le_refl _) (.int .i64 cf.reds)
  have B3 := B2.setCell (p := ⟨Wb, 15, none⟩) (Nat.le_refl _) (.int .i64 cf.wrk)
  have B4 := B3.setCell (p := ⟨Wb, 16, none⟩) (Nat.le_refl _) (.int .i64 cf.att)
  have B5 := B4.setCell (p := ⟨Wb, 17, none⟩) (Nat.le_refl _) (.int .i64 cf.bck)
  have B6 := B5.setCell (p := ⟨Wb, 18, none⟩) (Nat.le_refl _) (.int .i64 cf.lease)
  have B7 := B6.setCell (p := ⟨Wb, 19, none⟩) (Nat.le_refl _) (.int .i64 cf.late)
  have B8 := B7.setCell (p := ⟨Wb, 20, none⟩) (Nat.le_refl _) (.int .i64 cf.cap)
  have B9 := B8.setCell (p := ⟨Wb, 11, none⟩) (Nat.le_refl _) (.pointer none)
  refine ⟨⟨by rw [cell_of e9]; simp [U.size], by rw [cell_of e9]; simp [U.size]⟩, B9, F9⟩
end Go.Proofs.YtibofakbhgmhiabGreatDoor

namespace Go.Proofs.YtibofakbhgmhiabGreatDoor
open Go.RowKit Go.MuLone

/-- the first call's config -/
theorem NM.conf {Wb : Nat} {w : World} {cf : Cf} {cs : Array Value} (U : NM Wb w cf cs) (o : Obj) : Calls Tryz.prog 35 #[.pointer (some ⟨Wb, 0, none⟩)] ((w.setCell ⟨Wb, 12, none⟩ (.bool true)).alloc o) fun e w1 => e = .returned (.agg #[.int .i64 cf.maps, .int .i64 cf.reds, .int .i64 cf.wrk, .int .i64 cf.att, .int .i64 cf.bck, .int .i64 cf.lease, .int .i64 cf.late, .int .i64 cf.cap]) ∧ Below (w.heap.size + 1) ((w.setCell ⟨Wb, 12, none⟩ (.bool true)).alloc o) w1 := by
  have hWl := lt_of_block U.blk
  have hsw : (w.setCell ⟨Wb, 12, none⟩ (.bool true)).heap.size = w.heap.size := by simp [World.setCell]
  have a1 := put_block (j := 12) (v := .bool true) U.blk
  have a2 : ((w.setCell ⟨Wb, 12, none⟩ (.bool true)).alloc o).heap[Wb]? = _ := (Below.heap_alloc _ o Wb (by rw [hsw]; exact hWl)).trans a1
  have hc : ∀ j, j ≠ 12 → ((w.setCell ⟨Wb, 12, none⟩ (.bool true)).alloc o).cell? ⟨Wb, j, none⟩ = cs[j]? := fun j hj => by rw [cell_of a2, set_other (Ne.symm hj)]
  refine (wConfig Wb cf _ ((hc 0 (by omega)).trans U.n0) ((hc 1 (by omega)).trans U.n1) ((hc 2 (by omega)).trans U.n2) ((hc 3 (by omega)).trans U.n3) ((hc 4 (by omega)).trans U.n4) ((hc 5 (by omega)).trans U.n5) ((hc 6 (by omega)).trans U.n6) ((hc 7 (by omega)).trans U.n7)).mono ?_
  rintro e w1 ⟨rfl, hb⟩
  exact ⟨rfl, hb.mono (by simp [World.setCell])⟩

/-- behind the config: what the walk reads -/
theorem NM.reads {Wb : Nat} {w : World} {cf : Cf} {cs : Array Value} (U : NM Wb w cf cs) (o : Obj) {w1 w3 : World} (hb1 : Below (w.heap.size + 1) ((w.setCell ⟨Wb, 12, none⟩ (.bool true)).alloc o) w1) (hb3 : Below (w1.alloc (.cells #[.int .i64 cf.maps, .int .i64 cf.reds, .int .i64 cf.wrk, .int .i64 cf.att, .int .i64 cf.bck, .int .i64 cf.lease, .int .i64 cf.late, .int .i64 cf.cap] 36)).heap.size (w1.alloc (.cells #[.int .i64 cf.maps, .int .i64 cf.reds, .int .i64 cf.wrk, .int .i64 cf.att, .int .i64 cf.bck, .int .i64 cf.lease, .int .i64 cf.late, .int .i64 cf.cap] 36)) w3) : (w3.heap[w1.heap.size]? = some (.cells #[.int .i64 cf.maps, .int .i64 cf.reds, .int .i64 cf.wrk, .int .i64 cf.att, .int .i64 cf.bck, .int .i64 cf.lease, .int .i64 cf.late, .int .i64 cf.cap] 36 (0, 0)) ∧ w3.cell? ⟨Wb, 13, none⟩ = some (.int .i64 0) ∧ w3.cell? ⟨Wb, 14, none⟩ = some (.int .i64 0) ∧ w3.cell? ⟨Wb, 15, none⟩ = some (.int .i64 0) ∧ w3.cell? ⟨Wb, 16, none⟩ = some (.int .i64 0) ∧ w3.cell? ⟨Wb, 17, none⟩ = some (.int .i64 0) ∧ w3.cell? ⟨Wb, 18, none⟩ = some (.int .i64 0) ∧ w3.cell? ⟨Wb, 19, none⟩ = some (.int .i64 0) ∧ w3.cell? ⟨Wb, 20, none⟩ = some (.int .i64 0) ∧ w3.cell? ⟨Wb, 11, none⟩ = some (.pointer none) ∧ (∀ j, w3.frozen? ⟨Wb, j, none⟩ = false)) ∧ Below (w.heap.size + 1) ((w.setCell ⟨Wb, 12, none⟩ (.bool true)).alloc o) w3 := by
  have hWl := lt_of_block U.blk
  have hsw : (w.setCell ⟨Wb, 12, none⟩ (.bool true)).heap.size = w.heap.size := by simp [World.setCell]
  have a1 := put_block (j := 12) (v := .bool true) U.blk
  have a2 : ((w.setCell ⟨Wb, 12, none⟩ (.bool true)).alloc o).heap[Wb]? = _ := (Below.heap_alloc _ o Wb (by rw [hsw]; exact hWl)).trans a1
  have hs1 := hb1.size
  have hs0 : ((w.setCell ⟨Wb, 12, none⟩ (.bool true)).alloc o).heap.size = w.heap.size + 1 := by simp [World.setCell]
  have hb : Below (w.heap.size + 1) ((w.setCell ⟨Wb, 12, none⟩ (.bool true)).alloc o) w3 := (hb1.trans (((Below.refl _ _).alloc (Nat.le_refl _) (.cells #[.int .i64 cf.maps, .int .i64 cf.reds, .int .i64 cf.wrk, .int .i64 cf.att, .int .i64 cf.bck, .int .i64 cf.lease, .int .i64 cf.late, .int .i64 cf.cap] 36)).mono (by omega))).trans (hb3.mono (by simp; omega))
  have e0 : w3.heap[Wb]? = _ := (hb.block Wb (by omega)).trans a2
  have hc : ∀ j, j ≠ 12 → w3.cell? ⟨Wb, j, none⟩ = cs[j]? := fun j hj => by rw [cell_of e0, set_other (Ne.symm hj)]
  refine ⟨⟨?_, (hc 13 (by omega)).trans (U.z 13 (by omega) (by omega)), (hc 14 (by omega)).trans (U.z 14 (by omega) (by omega)), (hc 15 (by omega)).trans (U.z 15 (by omega) (by omega)), (hc 16 (by omega)).trans (U.z 16 (by omega) (by omega)), (hc 17 (by omega)).trans (U.z 17 (by omega) (by omega)), (hc 18 (by omega)).trans (U.z 18 (by omega) (by omega)), (hc 19 (by omega)).trans (U.z 19 (by omega) (by omega)), (hc 20 (by omega)).trans (U.z 20 (by omega) (by omega)), (hc 11 (by omega)).trans U.c11, fun j => frozen_put e0⟩, hb⟩
  rw [hb3.block _ (by simp)]
  exact alloc_at w1 (.cells #[.int .i64 cf.maps, .int .i64 cf.reds, .int .i64 cf.wrk, .int .i64 cf.att, .int .i64 cf.bck, .int .i64 cf.lease, .int .i64 cf.late, .int .i64 cf.cap] 36)

set_option maxHeartbeats 2000000 in
set_option maxRecDepth 100000 in
/-- the first call, where the config makes no table -/
theorem callFirstNo {Wb : Nat} {w : World} {cf : Cf} {cs : Array Value} (U : NM Wb w cf cs) (hno : ¬ cf.ok) (a : Nat → Addr) (S : SL Wb w a) (A B C : Int) (s t : ByteArray) :
    Calls Tryz.prog 25 #[.pointer (some ⟨Wb, 0, none⟩), .agg #[.int .i64 9, .int .i64 A, .int .i64 B, .int .i64 C, .string s, .string t]] w fun e w' => e = .returned (.bool true) ∧ (w'.cell? ⟨Wb, 11, none⟩ = some (.pointer none) ∧ w'.cell? ⟨Wb, 12, none⟩ = some (.bool true)) ∧ Below Wb w w' ∧ Fc Wb w w' := by
  have hWl := lt_of_block U.blk
  have a0 : (w.alloc (.cells #[.int .i64 9, .int .i64 A, .int .i64 B, .int .i64 C, .string s, .string t] 45)).heap[Wb]? = some (.cells cs 43 (0, 0)) := by rw [Below.heap_alloc w _ Wb hWl]; exact U.blk
  have c12 : (w.alloc (.cells #[.int .i64 9, .int .i64 A, .int .i64 B, .int .i64 C, .string s, .string t] 45)).cell? ⟨Wb, 12, none⟩ = some (.bool false) := (cell_of a0).trans U.c12
  have f12 : (w.alloc (.cells #[.int .i64 9, .int .i64 A, .int .i64 B, .int .i64 C, .string s, .string t] 45)).frozen? ⟨Wb, 12, none⟩ = false := frozen_put a0
  have hC : Hid (Calls Tryz.prog 35 #[.pointer (some ⟨Wb, 0, none⟩)] ((w.setCell ⟨Wb, 12, none⟩ (.bool true)).alloc (.cells #[.int .i64 9, .int .i64 A, .int .i64 B, .int .i64 C, .string s, .string t] 45)) fun e w1 => e = .returned (.agg #[.int .i64 cf.maps, .int .i64 cf.reds, .int .i64 cf.wrk, .int .i64 cf.att, .int .i64 cf.bck, .int .i64 cf.lease, .int .i64 cf.late, .int .i64 cf.cap]) ∧
      Calls Tryz.prog 12 #[.agg #[.int .i64 cf.maps, .int .i64 cf.reds, .int .i64 cf.wrk, .int .i64 cf.att, .int .i64 cf.bck, .int .i64 cf.lease, .int .i64 cf.late, .int .i64 cf.cap]] (w1.alloc (.cells #[.int .i64 cf.maps, .int .i64 cf.reds, .int .i64 cf.wrk, .int .i64 cf.att, .int .i64 cf.bck, .int .i64 cf.lease, .int .i64 cf.late, .int .i64 cf.cap] 36)) fun e w3 => e = .returned (.tuple #[.pointer none, .int .i64 1]) ∧ (w3.heap[w1.heap.size]? = some (.cells #[.int .i64 cf.maps, .int .i64 cf.reds, .int .i64 cf.wrk, .int .i64 cf.att, .int .i64 cf.bck, .int .i64 cf.lease, .int .i64 cf.late, .int .i64 cf.cap] 36 (0, 0)) ∧ w3.cell? ⟨Wb, 13, none⟩ = some (.int .i64 0) ∧ w3.cell? ⟨Wb, 14, none⟩ = some (.int .i64 0) ∧ w3.cell? ⟨Wb, 15, none⟩ = some (.int .i64 0) ∧ w3.cell? ⟨Wb, 16, none⟩ = some (.int .i64 0) ∧ w3.cell? ⟨Wb, 17, none⟩ = some (.int .i64 0) ∧ w3.cell? ⟨Wb, 18, none⟩ = some (.int .i64 0) ∧ w3.cell? ⟨Wb, 19, none⟩ = some (.int .i64 0) ∧ w3.cell? ⟨Wb, 20, none⟩ = some (.int .i64 0) ∧ w3.cell? ⟨Wb, 11, none⟩ = some (.pointer none) ∧ (∀ j, w3.frozen? ⟨Wb, j, none⟩ = false)) ∧ Hid ((((((((((((w3.setCell ⟨Wb, 13, none⟩ (.int .i64 cf.maps)).setCell ⟨Wb, 14, none⟩ (.int .i64 cf.reds)).setCell ⟨Wb, 15, none⟩ (.int .i64 cf.wrk)).setCell ⟨Wb, 16, none⟩ (.int .i64 cf.att)).setCell ⟨Wb, 17, none⟩ (.int .i64 cf.bck)).setCell ⟨Wb, 18, none⟩ (.int .i64 cf.lease)).setCell ⟨Wb, 19, none⟩ (.int .i64 cf.late)).setCell ⟨Wb, 20, none⟩ (.int .i64 cf.cap)).setCell ⟨Wb, 11, none⟩ (.pointer none))).cell? ⟨Wb, 11, none⟩ = some (.pointer none) ∧ ((((((((((w3.setCell ⟨Wb, 13, none⟩ (.int .i64 cf.maps)).setCell ⟨Wb, 14, none⟩ (.int .i64 cf.reds)).setCell ⟨Wb, 15, none⟩ (.int .i64 cf.wrk)).setCell ⟨Wb, 16, none⟩ (.int .i64 cf.att)).setCell ⟨Wb, 17, none⟩ (.int .i64 cf.bck)).setCell ⟨Wb, 18, none⟩ (.int .i64 cf.lease)).setCell ⟨Wb, 19, none⟩ (.int .i64 cf.late)).setCell ⟨Wb, 20, none⟩ (.int .i64 cf.cap)).setCell ⟨Wb, 11, none⟩ (.pointer none))).cell? ⟨Wb, 12, none⟩ = some (.bool true)) ∧ Below Wb w (((((((((w3.setCell ⟨Wb, 13, none⟩ (.int .i64 cf.maps)).setCell ⟨Wb, 14, none⟩ (.int .i64 cf.reds)).setCell ⟨Wb, 15, none⟩ (.int .i64 cf.wrk)).setCell ⟨Wb, 16, none⟩ (.int .i64 cf.att)).setCell ⟨Wb, 17, none⟩ (.int .i64 cf.bck)).setCell ⟨Wb, 18, none⟩ (.int .i64 cf.lease)).setCell ⟨Wb, 19, none⟩ (.int .i64 cf.late)).setCell ⟨Wb, 20, none⟩ (.int .i64 cf.cap)).setCell ⟨Wb, 11, none⟩ (.pointer none)) ∧ Fc Wb w (((((((((w3.setCell ⟨Wb, 13, none⟩ (.int .i64 cf.maps)).setCell ⟨Wb, 14, none⟩ (.int .i64 cf.reds)).setCell ⟨Wb, 15, none⟩ (.int .i64 cf.wrk)).setCell ⟨Wb, 16, none⟩ (.int .i64 cf.att)).setCell ⟨Wb, 17, none⟩ (.int .i64 cf.bck)).setCell ⟨Wb, 18, none⟩ (.int .i64 cf.lease)).setCell ⟨Wb, 19, none⟩ (.int .i64 cf.late)).setCell ⟨Wb, 20, none⟩ (.int .i64 cf.cap)).setCell ⟨Wb, 11, none⟩ (.pointer none)))) := by
    refine (U.conf _).mono ?_
    rintro e w1 ⟨rfl, hb1⟩
    have hs0 : ((w.setCell ⟨Wb, 12, none⟩ (.bool true)).alloc (.cells #[.int .i64 9, .int .i64 A, .int .i64 B, .int .i64 C, .string s, .string t] 45)).heap.size = w.heap.size + 1 := by simp [World.setCell]
    have hlow : Below Wb w (w1.alloc (.cells #[.int .i64 cf.maps, .int .i64 cf.reds, .int .i64 cf.wrk, .int .i64 cf.att, .int .i64 cf.bck, .int .i64 cf.lease, .int .i64 cf.late, .int .i64 cf.cap] 36)) := ((((Below.refl Wb w).setCell (p := ⟨Wb, 12, none⟩) (Nat.le_refl _) (.bool true)).trans (((Below.refl _ _).alloc (Nat.le_refl _) (.cells #[.int .i64 9, .int .i64 A, .int .i64 B, .int .i64 C, .string s, .string t] 45)).mono (by simp [World.setCell]; omega))).trans (hb1.mono (by omega))).trans (((Below.refl _ _).alloc (Nat.le_refl _) _).mono (by have := hb1.size; omega))
    refine ⟨rfl, (pNewTable_no cf hno _ a (S.low hlow).s).mono ?_⟩
    rintro e w3 ⟨rfl, hb3⟩
    obtain ⟨hq, hb⟩ := U.reads _ hb1 hb3
    exact ⟨rfl, hq, U.unmade _ hb⟩
  clear S U a0 hno
  go_enter Tryz.func25, Tryz.ntmps25
  go_wp2_with (first | (go_at_call 35; refine hC.out.mono ?_; rintro e w1 ⟨rfl, HN⟩) | (go_at_call 12; refine HN.mono ?_; rintro e w3 ⟨rfl, ⟨q1, k13, k14, k15, k16, k17, k18, k19, k20, k11, kf⟩, hfin⟩; have g0 : w3.cell? ⟨w1.heap.size, 0, none⟩ = some (.int .i64 cf.maps) := (by simp [World.cell?, q1]); have g1 : w3.cell? ⟨w1.heap.size, 1, none⟩ = some (.int .i64 cf.reds) := (by simp [World.cell?, q1]); have g2 : w3.cell? ⟨w1.heap.size, 2, none⟩ = some (.int .i64 cf.wrk) := (by simp [World.cell?, q1]); have g3 : w3.cell? ⟨w1.heap.size, 3, none⟩ = some (.int .i64 cf.att) := (by simp [World.cell?, q1]); have g4 : w3.cell? ⟨w1.heap.size, 4, none⟩ = some (.int .i64 cf.bck) := (by simp [World.cell?, q1]); have g5 : w3.cell? ⟨w1.heap.size, 5, none⟩ = some (.int .i64 cf.lease) := (by simp [World.cell?, q1]); have g6 : w3.cell? ⟨w1.heap.size, 6, none⟩ = some (.int .i64 cf.late) := (by simp [World.cell?, q1]); have g7 : w3.cell? ⟨w1.heap.size, 7, none⟩ = some (.int .i64 cf.cap) := (by simp [World.cell?, q1])))
  go_ret
  exact ⟨rfl, hfin.out⟩
end Go.Proofs.YtibofakbhgmhiabGreatDoor

namespace Go.Proofs.YtibofakbhgmhiabGreatDoor
open Go.RowKit Go.MuLone

theorem bk0_has {M : Nat} {B : Int} {k i : Nat} : ¬ (bk0 M).has B k i := by
  rintro ⟨hk, hi, _⟩
  simp [bk0, fresh] at hi
/-- the first call up to its table -/
theorem NM.pre {Wb : Nat} {w : World} {cf : Cf} {cs : Array Value} (U : NM Wb w cf cs) (ok : cf.ok) {M R : Nat} (hM : cf.maps = (M : Int)) (hR : cf.reds = (R : Int)) (N : Nat) (A B C : Int) (s t : ByteArray) :
    Calls Tryz.prog 35 #[.pointer (some ⟨Wb, 0, none⟩)] ((w.setCell ⟨Wb, 12, none⟩ (.bool true)).alloc (.cells #[.int .i64 9, .int .i64 A, .int .i64 B, .int .i64 C, .string s, .string t] 45)) fun e w1 => e = .returned (.agg #[.int .i64 cf.maps, .int .i64 cf.reds, .int .i64 cf.wrk, .int .i64 cf.att, .int .i64 cf.bck, .int .i64 cf.lease, .int .i64 cf.late, .int .i64 cf.cap]) ∧
      Calls Tryz.prog 12 #[.agg #[.int .i64 cf.maps, .int .i64 cf.reds, .int .i64 cf.wrk, .int .i64 cf.att, .int .i64 cf.bck, .int .i64 cf.lease, .int .i64 cf.late, .int .i64 cf.cap]] (w1.alloc (.cells #[.int .i64 cf.maps, .int .i64 cf.reds, .int .i64 cf.wrk, .int .i64 cf.att, .int .i64 cf.bck, .int .i64 cf.lease, .int .i64 cf.late, .int .i64 cf.cap] 36)) fun e w3 => ∃ Tb, e = .returned (.tuple #[.pointer (some ⟨Tb, 0, none⟩), .int .i64 0]) ∧ (w3.heap[w1.heap.size]? = some (.cells #[.int .i64 cf.maps, .int .i64 cf.reds, .int .i64 cf.wrk, .int .i64 cf.att, .int .i64 cf.bck, .int .i64 cf.lease, .int .i64 cf.late, .int .i64 cf.cap] 36 (0, 0)) ∧ w3.cell? ⟨Wb, 13, none⟩ = some (.int .i64 0) ∧ w3.cell? ⟨Wb, 14, none⟩ = some (.int .i64 0) ∧ w3.cell? ⟨Wb, 15, none⟩ = some (.int .i64 0) ∧ w3.cell? ⟨Wb, 16, none⟩ = some (.int .i64 0) ∧ w3.cell? ⟨Wb, 17, none⟩ = some (.int .i64 0) ∧ w3.cell? ⟨Wb, 18, none⟩ = some (.int .i64 0) ∧ w3.cell? ⟨Wb, 19, none⟩ = some (.int .i64 0) ∧ w3.cell? ⟨Wb, 20, none⟩ = some (.int .i64 0) ∧ w3.cell? ⟨Wb, 11, none⟩ = some (.pointer none) ∧ (∀ j, w3.frozen? ⟨Wb, j, none⟩ = false)) ∧ Hid (PW Wb w cf M R N (.cells #[.int .i64 9, .int .i64 A, .int .i64 B, .int .i64 C, .string s, .string t] 45) (((((((((w3.setCell ⟨Wb, 13, none⟩ (.int .i64 cf.maps)).setCell ⟨Wb, 14, none⟩ (.int .i64 cf.reds)).setCell ⟨Wb, 15, none⟩ (.int .i64 cf.wrk)).setCell ⟨Wb, 16, none⟩ (.int .i64 cf.att)).setCell ⟨Wb, 17, none⟩ (.int .i64 cf.bck)).setCell ⟨Wb, 18, none⟩ (.int .i64 cf.lease)).setCell ⟨Wb, 19, none⟩ (.int .i64 cf.late)).setCell ⟨Wb, 20, none⟩ (.int .i64 cf.cap)).setCell ⟨Wb, 11, none⟩ (.pointer (some ⟨Tb, 0, none⟩)))) := by
  have hWl := lt_of_block U.blk
  refine (U.conf _).mono ?_
  rintro e w1 ⟨rfl, hb1⟩
  have hs0 : ((w.setCell ⟨Wb, 12, none⟩ (.bool true)).alloc (.cells #[.int .i64 9, .int .i64 A, .int .i64 B, .int .i64 C, .string s, .string t] 45)).heap.size = w.heap.size + 1 := by simp [World.setCell]
  have hs1 := hb1.size
  refine ⟨rfl, (pNewTable cf M hM ok _).mono ?_⟩
  rintro e w3 ⟨Tb, rfl, hle, ⟨tv, vs, hT⟩, hb3⟩
  obtain ⟨hq, hb⟩ := U.reads _ hb1 hb3
  simp at hle
  exact ⟨Tb, rfl, hq, U.made ok hM hR _ N hb hT (by simp; omega) (by omega)⟩
end Go.Proofs.YtibofakbhgmhiabGreatDoor
