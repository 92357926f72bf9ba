namespace Go.Proofs.YtibofakbhgmhiaaGreatDoor.Rd

abbrev Bytes := List UInt8

def be4 (n : Nat) : Bytes := [UInt8.ofNat (n / 16777216), UInt8.ofNat (n / 65536), UInt8.ofNat (n / 256), UInt8.ofNat n]
def rd4 (l : Bytes) (i : Nat) : Nat := (l.getD i 0).toNat * 16777216 + (l.getD (i + 1) 0).toNat * 65536 + (l.getD (i + 2) 0).toNat * 256 + (l.getD (i + 3) 0).toNat

def body (k v : Bytes) : Bytes := be4 k.length ++ (be4 v.length ++ (k ++ v))
def recd (sum : Bytes → Nat) (k v : Bytes) : Bytes := body k v ++ be4 (sum (body k v))
def enc (sum : Bytes → Nat) : List (Bytes × Bytes) → Bytes
  | [] => []
  | p :: ps => recd sum p.1 p.2 ++ enc sum ps

def cut (sum : Bytes → Nat) (t : Bytes) : Except Nat ((Bytes × Bytes) × Bytes) :=
  if t.length < 8 then .error 2 else
  if t.length < 8 + rd4 t 0 + rd4 t 4 + 4 then .error 2 else
  if sum (t.take (8 + rd4 t 0 + rd4 t 4)) ≠ rd4 t (8 + rd4 t 0 + rd4 t 4) then .error 3 else
  .ok (((t.drop 8).take (rd4 t 0), (t.drop (8 + rd4 t 0)).take (rd4 t 4)), t.drop (8 + rd4 t 0 + rd4 t 4 + 4))

theorem be4_length (n : Nat) : (be4 n).length = 4 := rfl
theorem body_length (k v : Bytes) : (body k v).length = 8 + k.length + v.length := by
  simp [body, be4]; omega
theorem recd_length (sum : Bytes → Nat) (k v : Bytes) : (recd sum k v).length = 12 + k.length + v.length := by
  simp [recd, body_length, be4]; omega

theorem rd4_lt (l : Bytes) (i : Nat) : rd4 l i < 4294967296 := by
  unfold rd4
  have h := fun j => UInt8.toNat_lt (l.getD j 0)
  have h0 := h i; have h1 := h (i + 1); have h2 := h (i + 2); have h3 := h (i + 3)
  omega

theorem rd4_append (a l : Bytes) (i : Nat) (h : a.length = i) : rd4 (a ++ l) i = rd4 l 0 := by
  subst h
  have g : ∀ j, (a ++ l).getD (a.length + j) 0 = l.getD j 0 := by
    intro j; simp [List.getD, List.getElem?_append_right]
  have g0 := g 0
  simp only [Nat.add_zero] at g0
  simp only [rd4, g, g0, Nat.zero_add]

theorem rd4_be4 (n : Nat) (l : Bytes) (h : n < 4294967296) : rd4 (be4 n ++ l) 0 = n := by
  simp [rd4, be4]
  omega

theorem rd4_left (a l : Bytes) (i : Nat) (h : i + 4 ≤ a.length) : rd4 (a ++ l) i = rd4 a i := by
  have g : ∀ j, j < a.length → (a ++ l).getD j 0 = a.getD j 0 := by
    intro j hj; simp [List.getD, List.getElem?_append_left hj]
  simp only [rd4]
  rw [g _ (by omega), g _ (by omega), g _ (by omega), g _ (by omega)]

theorem u8_eq (x : UInt8) (n : Nat) (h : n % 256 = x.toNat) : UInt8.ofNat n = x := by
  apply UInt8.toNat_inj.1
  rw [UInt8.toNat_ofNat']
  exact h

theorem be4_rd4 (l : Bytes) (i : Nat) (h : i + 4 ≤ l.length) : be4 (rd4 l i) = (l.drop i).take 4 := by
  have d : (l.drop i).take 4 = [l.getD i 0, l.getD (i + 1) 0, l.getD (i + 2) 0, l.getD (i + 3) 0] := by
    apply List.ext_getElem
    · simp; omega
    · intro j h1 h2
      simp at h2
      have : j = 0 ∨ j = 1 ∨ j = 2 ∨ j = 3 := by omega
      rcases this with rfl | rfl | rfl | rfl <;> simp [List.getElem_take, List.getElem_drop] <;> (rw [List.getElem?_eq_getElem (by omega)]; rfl)
  rw [d]
  have hb := fun j => UInt8.toNat_lt (l.getD j 0)
  have b0 := hb i; have b1 := hb (i + 1); have b2 := hb (i + 2); have b3 := hb (i + 3)
  unfold be4 rd4
  rw [u8_eq (l.getD i 0) _ (by omega), u8_eq (l.getD (i + 1) 0) _ (by omega), u8_eq (l.getD (i + 2) 0) _ (by omega), u8_eq (l.getD (i + 3) 0) _ (by omega)]

theorem cut_recd (sum : Bytes → Nat) (hs : ∀ l, sum l < 4294967296) (k v rest : Bytes) (hk : k.length < 4294967296) (hv : v.length < 4294967296) :
    cut sum (recd sum k v ++ rest) = .ok ((k, v), rest) := by
  have e0 : rd4 (recd sum k v ++ rest) 0 = k.length := by
    simp only [recd, body, List.append_assoc]
    rw [rd4_be4 _ _ hk]
  have e4 : rd4 (recd sum k v ++ rest) 4 = v.length := by
    simp only [recd, body, List.append_assoc]
    rw [rd4_append _ _ 4 rfl, rd4_be4 _ _ hv]
  have es : rd4 (recd sum k v ++ rest) (8 + k.length + v.length) = sum (body k v) := by
    simp only [recd, List.append_assoc]
    rw [rd4_append _ _ _ (body_length k v), rd4_be4 _ _ (hs _)]
  have et : (recd sum k v ++ rest).take (8 + k.length + v.length) = body k v := by
    simp only [recd, List.append_assoc]
    rw [← body_length k v, List.take_left]
  have ed : (recd sum k v ++ rest).drop (8 + k.length + v.length + 4) = rest := by
    have : 8 + k.length + v.length + 4 = (recd sum k v).length := by rw [recd_length]; omega
    rw [this, List.drop_left]
  have ek : ((recd sum k v ++ rest).drop 8).take k.length = k := by
    have : recd sum k v ++ rest = (be4 k.length ++ be4 v.length) ++ (k ++ (v ++ (be4 (sum (body k v)) ++ rest))) := by
      simp [recd, body]
    rw [this, show (8 : Nat) = (be4 k.length ++ be4 v.length).length from rfl, List.drop_left, List.take_left]
  have ev : ((recd sum k v ++ rest).drop (8 + k.length)).take v.length = v := by
    have : recd sum k v ++ rest = (be4 k.length ++ be4 v.length ++ k) ++ (v ++ (be4 (sum (body k v)) ++ rest)) := by
      simp [recd, body]
    rw [this, show 8 + k.length = (be4 k.length ++ be4 v.length ++ k).length from by simp [be4]; omega, List.drop_left, List.take_left]
  have hl : (recd sum k v ++ rest).length = 12 + k.length + v.length + rest.length := by
    rw [List.length_append, recd_length]
  unfold cut
  rw [e0, e4, es, et, ed, ek, ev, hl, if_neg (by omega), if_neg (by omega), if_neg (by simp)]

theorem recd_cut (sum : Bytes → Nat) (t k v rest : Bytes) (h : cut sum t = .ok ((k, v), rest)) :
    t = recd sum k v ++ rest ∧ k.length < 4294967296 ∧ v.length < 4294967296 := by
  unfold cut at h
  split at h
  · simp at h
  split at h
  · simp at h
  split at h
  · simp at h
  rename_i h1 h2 h3
  have b0 := rd4_lt t 0
  have b4 := rd4_lt t 4
  simp only [Except.ok.injEq, Prod.mk.injEq] at h
  obtain ⟨⟨rfl, rfl⟩, rfl⟩ := h
  have lk : ((t.drop 8).take (rd4 t 0)).length = rd4 t 0 := by simp; omega
  have lv : ((t.drop (8 + rd4 t 0)).take (rd4 t 4)).length = rd4 t 4 := by simp; omega
  refine ⟨?_, by rw [lk]; exact b0, by rw [lv]; exact b4⟩
  have hb : body ((t.drop 8).take (rd4 t 0)) ((t.drop (8 + rd4 t 0)).take (rd4 t 4)) = t.take (8 + rd4 t 0 + rd4 t 4) := by
    unfold body
    rw [lk, lv, be4_rd4 t 0 (by omega), be4_rd4 t 4 (by omega)]
    rw [show t.drop 0 = t from rfl]
    have q : ∀ a b : Nat, t.take a ++ (t.drop a).take b = t.take (a + b) := by
      intro a b; rw [List.take_add]
    rw [← List.append_assoc, ← List.append_assoc, q 4 4, q (4 + 4) _, show 4 + 4 = 8 from rfl, q (8 + rd4 t 0) _]
  unfold recd
  rw [hb]
  have hz : sum (t.take (8 + rd4 t 0 + rd4 t 4)) = rd4 t (8 + rd4 t 0 + rd4 t 4) := by
    simpa using h3
  rw [hz, be4_rd4 t _ (by omega), ← List.take_add, List.take_append_drop]

theorem enc_append (sum : Bytes → Nat) (a b : List (Bytes × Bytes)) : enc sum (a ++ b) = enc sum a ++ enc sum b := by
  induction a with
  | nil => rfl
  | cons p ps ih => simp [enc, ih]

def Short (l : List (Bytes × Bytes)) : Prop := ∀ p ∈ l, p.1.length < 4294967296 ∧ p.2.length < 4294967296

/-- what stands behind the records of ps in the text of l are the records of the rest of l -/
theorem enc_left (sum : Bytes → Nat) (hs : ∀ l, sum l < 4294967296) : ∀ (ps l : List (Bytes × Bytes)) (t : Bytes), Short ps → Short l → enc sum l = enc sum ps ++ t → ∃ l', l = ps ++ l' ∧ t = enc sum l'
  | [], l, t, _, _, h => ⟨l, rfl, by simpa [enc] using h.symm⟩
  | p :: ps, [], t, _, _, h => by
    have := congrArg List.length h
    simp [enc, recd_length] at this; omega
  | p :: ps, q :: l, t, hp, hl, h => by
    have h1 : cut sum (enc sum (q :: l)) = .ok ((q.1, q.2), enc sum l) :=
      cut_recd sum hs _ _ _ (hl q (by simp)).1 (hl q (by simp)).2
    have h2 : cut sum (enc sum (p :: ps) ++ t) = .ok ((p.1, p.2), enc sum ps ++ t) := by
      have := cut_recd sum hs p.1 p.2 (enc sum ps ++ t) (hp p (by simp)).1 (hp p (by simp)).2
      simpa [enc] using this
    rw [h, h2] at h1
    simp only [Except.ok.injEq, Prod.mk.injEq] at h1
    obtain ⟨⟨e1, e2⟩, e3⟩ := h1
    obtain ⟨l', hl', ht⟩ := enc_left sum hs ps l t (fun x hx => hp x (by simp [hx])) (fun x hx => hl x (by simp [hx])) e3.symm
    refine ⟨l', ?_, ht⟩
    have : q = p := Prod.ext e1.symm e2.symm
    rw [this, hl']; rfl

theorem enc_inj (sum : Bytes → Nat) (hs : ∀ l, sum l < 4294967296) (a b : List (Bytes × Bytes)) (ha : Short a) (hb : Short b) (h : enc sum a = enc sum b) : a = b := by
  obtain ⟨l', h1, h2⟩ := enc_left sum hs b a [] hb ha (by simpa using h)
  cases l' with
  | nil => simpa using h1
  | cons q l' =>
    have := congrArg List.length h2
    simp [enc, recd_length] at this; omega

/-- a text that stands behind whole records and whose first record is none is not what a list is told as -/
theorem enc_no (sum : Bytes → Nat) (hs : ∀ l, sum l < 4294967296) (ps l : List (Bytes × Bytes)) (t : Bytes) (e : Nat) (hp : Short ps) (hl : Short l) (ht : t ≠ []) (hc : cut sum t = .error e) : enc sum l ≠ enc sum ps ++ t := by
  intro h
  obtain ⟨l', _, h2⟩ := enc_left sum hs ps l t hp hl h
  cases l' with
  | nil => exact ht h2
  | cons q l' =>
    have hq : Short (q :: l') := by
      intro x hx; apply hl; rename_i h1; rw [h1]; simp at hx ⊢; right; exact hx
    have h1 : cut sum t = .ok ((q.1, q.2), enc sum l') := by
      rw [h2]; exact cut_recd sum hs _ _ _ (hq q (by simp)).1 (hq q (by simp)).2
    rw [h1] at hc; simp at hc

theorem enc_length (sum : Bytes → Nat) : ∀ l : List (Bytes × Bytes), (enc sum l).length = (l.map fun p => 12 + p.1.length + p.2.length).sum
  | [] => rfl
  | p :: ps => by simp [enc, recd_length, enc_length sum ps]
end Go.Proofs.YtibofakbhgmhiaaGreatDoor.Rd
