/- Texts FrMath, CrcA, CrcB, CrcC, FrA, FrB in one. For what each says in front of its theorems. -/
import Derived.Deep.RegionHeld3
import Derived.Deep.RegionLaw
import Derived.RegionTactic
import Derived.Test.YtpdenmcacaajkaaGreatXB1
/-! ### FrMath -/
namespace Go.Proofs.YtpdenmcacaajkaaGreat
namespace Fr

/-- The sum of a list of bytes. -/
def sumL (s : Nat) (l : List Int) : Nat := l.foldl (fun n c => Cr.byte1 n c.toNat) s
theorem sumL_append (s : Nat) (l m : List Int) : sumL s (l ++ m) = sumL (sumL s l) m := List.foldl_append
theorem sumL_lt {s : Nat} (h : s < 32768) (l : List Int) : sumL s l < 32768 := by
  induction l generalizing s with
  | nil => exact h
  | cons x l ih => exact ih (Cr.byte1_lt _ _)
theorem sumL_inj {m n : Nat} (l : List Int) (hm : m < 32768) (hn : n < 32768) (h : sumL m l = sumL n l) : m = n := by
  induction l generalizing m n with
  | nil => exact h
  | cons x l ih => exact Cr.byte1_inj _ hm hn (ih (Cr.byte1_lt _ _) (Cr.byte1_lt _ _) h)
theorem sumTo_sumL (s : Nat) (l : List Int) : ∀ k, k ≤ l.length → Cr.sumTo s (fun j => l.getD j 0) k = sumL s (l.take k)
  | 0, _ => rfl
  | k + 1, h => by
    have hk : k < l.length := by omega
    rw [Cr.sumTo, sumTo_sumL s l k (by omega), List.take_succ_eq_append_getElem hk, sumL_append]
    simp [sumL, List.getD_eq_getElem?_getD, hk]
theorem sum_all (s : Nat) (l : List Int) : Cr.sumTo s (fun j => l.getD j 0) l.length = sumL s l := by
  rw [sumTo_sumL s l _ (Nat.le_refl _), List.take_length]

/-- Bytes. -/
def okL (l : List Int) : Prop := ∀ x ∈ l, 0 ≤ x ∧ x < 256
theorem okL.append {l m : List Int} (h : okL l) (h' : okL m) : okL (l ++ m) := fun x hx => by
  rcases List.mem_append.1 hx with hx | hx
  · exact h x hx
  · exact h' x hx
theorem okL.take {l : List Int} (h : okL l) (k : Nat) : okL (l.take k) := fun x hx => h x (List.mem_of_mem_take hx)
theorem okL.drop {l : List Int} (h : okL l) (k : Nat) : okL (l.drop k) := fun x hx => h x (List.mem_of_mem_drop hx)
theorem okL.getD {l : List Int} (h : okL l) (k : Nat) : 0 ≤ l.getD k 0 ∧ l.getD k 0 < 256 := by
  by_cases hk : k < l.length
  · rw [List.getD_eq_getElem?_getD, List.getElem?_eq_getElem hk, Option.getD_some]
    exact h _ (List.getElem_mem _)
  · rw [List.getD_eq_getElem?_getD, List.getElem?_eq_none (by omega)]
    exact ⟨by decide, by decide⟩
/-- One byte that is another makes another sum. -/
theorem sum_turned {s : Nat} (p q : List Int) (x y : Int) (hx : 0 ≤ x ∧ x < 256) (hy : 0 ≤ y ∧ y < 256) (h : x ≠ y) : sumL s (p ++ x :: q) ≠ sumL s (p ++ y :: q) := by
  intro e
  rw [sumL_append, sumL_append] at e
  have e2 : sumL (Cr.byte1 (sumL s p) x.toNat) q = sumL (Cr.byte1 (sumL s p) y.toNat) q := e
  have := Cr.byte1_byte (by omega) (by omega) (sumL_inj q (Cr.byte1_lt _ _) (Cr.byte1_lt _ _) e2)
  omega

/-- A number in two bytes. -/
def two (n : Nat) : List Int := [((n / 256 : Nat) : Int), ((n % 256 : Nat) : Int)]
theorem two_ok {n : Nat} (h : n < 65536) : okL (two n) := fun x hx => by
  rcases List.mem_cons.1 hx with rfl | hx
  · omega
  · rcases List.mem_cons.1 hx with rfl | hx
    · omega
    · cases hx
theorem two_inj {m n : Nat} (h : two m = two n) : m = n := by
  simp only [two, List.cons.injEq, and_true] at h
  omega

/-- A state: the round, the slot, the members. -/
structure St where
  r : Int
  s : Int
  m : Int
def St.may (s : St) : Bool := decide (0 ≤ s.r) && decide (s.r ≤ 65535) && decide (0 ≤ s.s) && decide (s.s < 8) && decide (0 ≤ s.m) && decide (s.m ≤ 255)
theorem St.may_iff (s : St) : s.may = true ↔ (0 ≤ s.r ∧ s.r ≤ 65535) ∧ (0 ≤ s.s ∧ s.s < 8) ∧ 0 ≤ s.m ∧ s.m ≤ 255 := by
  simp [St.may, and_assoc]
def St.bytes (s : St) : List Int := [s.r / 256, s.r % 256, s.s, s.m]
theorem St.bytes_ok {s : St} (h : s.may = true) : okL s.bytes := fun x hx => by
  have := s.may_iff.1 h
  simp only [St.bytes, List.mem_cons, List.not_mem_nil, or_false] at hx
  omega
def St.seed (s : St) : Nat := if s.may then sumL 32767 s.bytes else 0
theorem St.seed_lt (s : St) : s.seed < 32768 := by
  unfold St.seed
  split
  · exact sumL_lt (by decide) _
  · decide

/-- A frame. -/
structure F where
  k : Int
  st : St
  d : List Int
def F.is (f : F) : Bool := decide (1 ≤ f.k) && decide (f.k ≤ 3) && f.st.may && decide (f.d.length ≤ 8)
theorem F.is_iff (f : F) : f.is = true ↔ (1 ≤ f.k ∧ f.k ≤ 3) ∧ f.st.may = true ∧ f.d.length ≤ 8 := by
  simp [F.is, and_assoc]
def F.seed (f : F) : Nat := if f.k = 1 then f.st.seed else 0
theorem F.seed_lt (f : F) : f.seed < 32768 := by
  unfold F.seed
  split
  · exact St.seed_lt _
  · decide
/-- What comes ahead of the bytes. -/
def F.head (f : F) : List Int := (if f.k = 1 then [f.k] else f.k :: f.st.bytes) ++ [(f.d.length : Int)]
def F.body (f : F) : List Int := f.head ++ f.d
def F.bytes (f : F) : List Int := f.body ++ two (sumL f.seed f.body)
def F.hl (f : F) : Nat := if f.k = 1 then 2 else 6
theorem F.head_length (f : F) : f.head.length = f.hl := by
  unfold F.head F.hl
  split <;> simp [St.bytes]
theorem F.body_length (f : F) : f.body.length = f.hl + f.d.length := by rw [F.body, List.length_append, F.head_length]
theorem F.bytes_length (f : F) : f.bytes.length = f.hl + f.d.length + 2 := by rw [F.bytes, List.length_append, F.body_length]; rfl
theorem F.head_ok {f : F} (h : f.is = true) : okL f.head := fun x hx => by
  obtain ⟨hk, hs, hd⟩ := f.is_iff.1 h
  have hb := St.bytes_ok hs
  unfold F.head at hx
  rcases List.mem_append.1 hx with hx | hx
  · split at hx
    · rw [List.mem_singleton] at hx; omega
    · rcases List.mem_cons.1 hx with rfl | hx
      · omega
      · exact hb x hx
  · rw [List.mem_singleton] at hx; omega
theorem F.body_ok {f : F} (h : f.is = true) (hd : okL f.d) : okL f.body := (F.head_ok h).append hd
theorem F.bytes_ok {f : F} (h : f.is = true) (hd : okL f.d) : okL f.bytes := (F.body_ok h hd).append (two_ok (Nat.lt_trans (sumL_lt f.seed_lt _) (by decide)))

/-- What is read of a list of bytes, by a state: the kind, the told state, how many bytes, where they begin. -/
def kd (l : List Int) : Int := l.getD 0 0
def at_ (l : List Int) : Nat := if kd l = 1 then 1 else 5
def stOf (l : List Int) (own : St) : St := if kd l = 1 then own else ⟨l.getD 1 0 * 256 + l.getD 2 0, l.getD 3 0, l.getD 4 0⟩
def cnt (l : List Int) : Int := l.getD (at_ l) 0
def sdOf (l : List Int) (own : St) : Nat := if kd l = 1 then own.seed else 0
def formB (l : List Int) (own : St) : Bool :=
  decide (4 ≤ l.length) && own.may && decide (1 ≤ kd l) && decide (kd l ≤ 3) && (kd l == 1 || decide (8 ≤ l.length)) && (stOf l own).may && decide (cnt l ≤ 8) && decide ((l.length : Int) = at_ l + 1 + cnt l + 2)
def sumB (l : List Int) (own : St) : Bool := two (sumL (sdOf l own) (l.take (l.length - 2))) == l.drop (l.length - 2)
def rd (l : List Int) (own : St) : F := ⟨kd l, stOf l own, (l.drop (at_ l + 1)).take (cnt l).toNat⟩
def err (l : List Int) (own : St) : Int := if formB l own then (if sumB l own then 0 else 3) else 2
def zero : F := ⟨0, ⟨0, 0, 0⟩, []⟩
def res (l : List Int) (own : St) : F := if formB l own && sumB l own then rd l own else zero

theorem cut_tail (p t : List Int) (ht : t.length = 2) : (p ++ t).take ((p ++ t).length - 2) = p ∧ (p ++ t).drop ((p ++ t).length - 2) = t := by
  have : (p ++ t).length - 2 = p.length := by rw [List.length_append]; omega
  rw [this, List.take_left, List.drop_left]
  exact ⟨rfl, rfl⟩

theorem read_normal (d t : List Int) (own : St) (hd : d.length ≤ 8) (ht : t.length = 2) (ho : own.may = true) :
    formB (1 :: (d.length : Int) :: (d ++ t)) own = true ∧ rd (1 :: (d.length : Int) :: (d ++ t)) own = ⟨1, own, d⟩ ∧ sumB (1 :: (d.length : Int) :: (d ++ t)) own = (two (sumL own.seed (1 :: (d.length : Int) :: d)) == t) := by
  obtain ⟨h1, h2⟩ := cut_tail (1 :: (d.length : Int) :: d) t ht
  refine ⟨?_, ?_, ?_⟩
  · simp only [formB, kd, at_, cnt, stOf, List.getD_cons_zero, if_true, List.getD_cons_succ, ho, List.length_cons, List.length_append, Bool.and_eq_true, decide_eq_true_eq, Bool.or_eq_true, beq_iff_eq, true_or, and_true]
    omega
  · simp only [rd, kd, at_, cnt, stOf, List.getD_cons_zero, if_true, List.getD_cons_succ, Int.toNat_natCast, Nat.reduceAdd, List.drop_succ_cons, List.drop_zero, List.take_left]
  · show (two (sumL (sdOf (1 :: (d.length : Int) :: (d ++ t)) own) ((1 :: (d.length : Int) :: d ++ t).take _)) == (1 :: (d.length : Int) :: d ++ t).drop _) = _
    simp only [List.cons_append] at h1 h2 ⊢
    rw [h1, h2]
    simp [sdOf, kd]

theorem read_told (k : Int) (hk : 2 ≤ k ∧ k ≤ 3) (st : St) (hst : st.may = true) (d t : List Int) (own : St) (hd : d.length ≤ 8) (ht : t.length = 2) (ho : own.may = true) :
    formB (k :: (st.bytes ++ (d.length : Int) :: (d ++ t))) own = true ∧ rd (k :: (st.bytes ++ (d.length : Int) :: (d ++ t))) own = ⟨k, st, d⟩ ∧ sumB (k :: (st.bytes ++ (d.length : Int) :: (d ++ t))) own = (two (sumL 0 (k :: (st.bytes ++ (d.length : Int) :: d))) == t) := by
  obtain ⟨h1, h2⟩ := cut_tail (k :: (st.bytes ++ (d.length : Int) :: d)) t ht
  have hk1 : ¬ k = 1 := by omega
  have hk2 : (k == 1) = false := by simpa using hk1
  have hb := st.may_iff.1 hst
  have hst2 : (⟨st.r / 256 * 256 + st.r % 256, st.s, st.m⟩ : St) = st := by
    have : st.r / 256 * 256 + st.r % 256 = st.r := by omega
    rw [this]
  refine ⟨?_, ?_, ?_⟩
  · simp only [formB, kd, at_, cnt, stOf, St.bytes, List.cons_append, List.nil_append, List.getD_cons_zero, if_neg hk1, List.getD_cons_succ, hst2, hst, ho, hk2, List.length_cons, List.length_append, Bool.and_eq_true, decide_eq_true_eq, Bool.or_eq_true, Bool.false_eq_true, false_or, and_true]
    omega
  · simp only [rd, kd, at_, cnt, stOf, St.bytes, List.cons_append, List.nil_append, List.getD_cons_zero, if_neg hk1, List.getD_cons_succ, hst2, Int.toNat_natCast, Nat.reduceAdd, List.drop_succ_cons, List.drop_zero, List.take_left]
  · have e : k :: (st.bytes ++ (d.length : Int) :: (d ++ t)) = k :: (st.bytes ++ (d.length : Int) :: d) ++ t := by simp
    unfold sumB
    rw [e, h1, h2]
    simp [sdOf, kd, hk1]

theorem F.bytes_normal {f : F} (h : f.k = 1) : f.bytes = 1 :: (f.d.length : Int) :: (f.d ++ two (sumL f.st.seed (1 :: (f.d.length : Int) :: f.d))) := by
  simp [F.bytes, F.body, F.head, F.seed, h]
theorem F.bytes_told {f : F} (h : f.k ≠ 1) : f.bytes = f.k :: (f.st.bytes ++ (f.d.length : Int) :: (f.d ++ two (sumL 0 (f.k :: (f.st.bytes ++ (f.d.length : Int) :: f.d))))) := by
  simp [F.bytes, F.body, F.head, F.seed, h]

/-- What is written is read again: a Normal frame by a state of its seed, the others by any. -/
theorem back {f : F} (h : f.is = true) (own : St) (ho : own.may = true) :
    formB f.bytes own = true ∧ rd f.bytes own = ⟨f.k, if f.k = 1 then own else f.st, f.d⟩ ∧ (sumB f.bytes own = true ↔ (f.k = 1 → own.seed = f.st.seed)) := by
  obtain ⟨hk, hs, hd⟩ := f.is_iff.1 h
  by_cases h1 : f.k = 1
  · obtain ⟨a, b, c⟩ := read_normal f.d (two (sumL f.st.seed (1 :: (f.d.length : Int) :: f.d))) own hd rfl ho
    rw [F.bytes_normal h1, a, b, c, if_pos h1, h1]
    refine ⟨rfl, rfl, ?_⟩
    rw [beq_iff_eq]
    exact ⟨fun e _ => sumL_inj _ own.seed_lt f.st.seed_lt (two_inj e), fun e => by rw [e rfl]⟩
  · obtain ⟨a, b, c⟩ := read_told f.k (by omega) f.st hs f.d (two (sumL 0 (f.k :: (f.st.bytes ++ (f.d.length : Int) :: f.d)))) own hd rfl ho
    rw [F.bytes_told h1, a, b, c, if_neg h1]
    exact ⟨rfl, rfl, by simp [h1]⟩

theorem list_two : ∀ {l : List Int}, l.length = 2 → ∃ x y, l = [x, y]
  | [x, y], _ => ⟨x, y, rfl⟩
theorem tail_two (x : Nat) (rest : List Int) (h : rest.length = x + 2) : rest.take (rest.length - 2) = rest.take x := by rw [show rest.length - 2 = x by omega]
/-- What is read is written as it was. -/
theorem once {l : List Int} (hl : okL l) {own : St} (h : formB l own = true) (hs : sumB l own = true) : (rd l own).is = true ∧ (rd l own).bytes = l ∧ okL (rd l own).d := by
  simp only [formB, Bool.and_eq_true, decide_eq_true_eq, Bool.or_eq_true, beq_iff_eq] at h
  obtain ⟨⟨⟨⟨⟨⟨⟨h4, ho⟩, k1⟩, k3⟩, h8⟩, hst⟩, hc8⟩, hlen⟩ := h
  have hc0 : 0 ≤ cnt l := (hl.getD _).1
  have hdl : (rd l own).d.length = (cnt l).toNat := by
    simp only [rd, List.length_take, List.length_drop]
    omega
  have hsb := eq_of_beq hs
  have hL : l.take (l.length - 2) ++ two (sumL (sdOf l own) (l.take (l.length - 2))) = l := by rw [hsb, List.take_append_drop]
  have hbody : (rd l own).body = l.take (l.length - 2) := by
    clear hL hsb hs
    by_cases hk : kd l = 1
    · match l, hl, h4, hk, hc0, hlen, hdl with
      | a :: b :: rest, hl, h4, hk, hc0, hlen, hdl =>
        have ha : a = 1 := hk
        subst ha
        have hb : cnt (1 :: b :: rest) = b := rfl
        have hat : at_ (1 :: b :: rest) = 1 := rfl
        rw [hb] at hc0
        rw [hb, hat] at hlen
        simp only [List.length_cons] at hlen
        have hd : (rd (1 :: b :: rest) own).d = rest.take b.toNat := rfl
        have hd2 : (rest.take b.toNat).length = b.toNat := by rw [List.length_take]; omega
        show F.head _ ++ F.d _ = _
        rw [F.head, hd, hd2, show (rd (1 :: b :: rest) own).k = 1 from rfl, if_pos rfl, Int.toNat_of_nonneg hc0, show (1 :: b :: rest).length - 2 = (rest.length - 2) + 2 by simp only [List.length_cons]; omega, tail_two b.toNat rest (by omega) |>.symm]
        rfl
    · have h8' : 8 ≤ l.length := h8.resolve_left hk
      match l, hl, h8', hk, hc0, hlen, hdl with
      | a :: b :: c :: d :: e :: g :: rest, hl, h8', hk, hc0, hlen, hdl =>
        have ha : ¬ a = 1 := hk
        have hat : at_ (a :: b :: c :: d :: e :: g :: rest) = 5 := if_neg hk
        have hb : cnt (a :: b :: c :: d :: e :: g :: rest) = g := by rw [cnt, hat]; rfl
        rw [hb] at hc0
        rw [hb, hat] at hlen
        simp only [List.length_cons] at hlen
        have hd : (rd (a :: b :: c :: d :: e :: g :: rest) own).d = rest.take g.toNat := by simp only [rd, hb, hat]; rfl
        have hd2 : (rest.take g.toNat).length = g.toNat := by rw [List.length_take]; omega
        have hb1 := hl b (by simp)
        have hb2 := hl c (by simp)
        have hst2 : (rd (a :: b :: c :: d :: e :: g :: rest) own).st = ⟨b * 256 + c, d, e⟩ := by simp only [rd, stOf, if_neg hk]; rfl
        show F.head _ ++ F.d _ = _
        rw [F.head, hd, hd2, show (rd (a :: b :: c :: d :: e :: g :: rest) own).k = a from rfl, if_neg ha, hst2, Int.toNat_of_nonneg hc0, show (a :: b :: c :: d :: e :: g :: rest).length - 2 = (rest.length - 2) + 6 by simp only [List.length_cons]; omega, tail_two g.toNat rest (by omega) |>.symm]
        simp only [St.bytes]
        rw [show (b * 256 + c) / 256 = b by omega, show (b * 256 + c) % 256 = c by omega]
        rfl
  refine ⟨(F.is_iff _).2 ⟨⟨k1, k3⟩, hst, by omega⟩, ?_, (hl.drop _).take _⟩
  unfold F.bytes
  rw [hbody]
  have : (rd l own).seed = sdOf l own := by
    unfold F.seed sdOf rd stOf
    by_cases hk : kd l = 1 <;> simp [hk]
  rw [this, hL]
theorem getD_app {l m : List Int} {i : Nat} (h : i < l.length) : (l ++ m).getD i 0 = l.getD i 0 := by
  rw [List.getD_eq_getElem?_getD, List.getD_eq_getElem?_getD, List.getElem?_append_left h]
/-- The form hangs on the head and the length alone. -/
theorem form_alike {l l' : List Int} (own : St) (hlen : l'.length = l.length) (h : ∀ i, i ≤ at_ l → l'.getD i 0 = l.getD i 0) : formB l' own = formB l own := by
  have hk : kd l' = kd l := h 0 (Nat.zero_le _)
  have hat : at_ l' = at_ l := by rw [at_, at_, hk]
  have hc : cnt l' = cnt l := by rw [cnt, cnt, hat]; exact h _ (Nat.le_refl _)
  have hst : stOf l' own = stOf l own := by
    unfold stOf
    rw [hk]
    split
    · rfl
    · rename_i hne
      have : at_ l = 5 := if_neg hne
      rw [h 1 (by omega), h 2 (by omega), h 3 (by omega), h 4 (by omega)]
  unfold formB
  rw [hlen, hk, hat, hc, hst]

theorem getD_set_ne {l : List Int} {i j : Nat} {x : Int} (h : i ≠ j) : (l.set i x).getD j 0 = l.getD j 0 := by
  rw [List.getD_eq_getElem?_getD, List.getD_eq_getElem?_getD, List.getElem?_set_ne h]
theorem F.at_bytes (f : F) : at_ f.bytes + 1 = f.hl := by
  by_cases h1 : f.k = 1
  · have : kd f.bytes = 1 := by rw [F.bytes_normal h1]; rfl
    rw [at_, if_pos this, F.hl, if_pos h1]
  · have : kd f.bytes = f.k := by rw [F.bytes_told h1]; rfl
    rw [at_, this, if_neg h1, F.hl, if_neg h1]
theorem set_app_left {p q : List Int} {i : Nat} (h : i < p.length) (x : Int) : (p ++ q).set i x = p.set i x ++ q := List.set_append_left _ _ h
theorem set_app_right {p q : List Int} {i : Nat} (h : p.length ≤ i) (x : Int) : (p ++ q).set i x = p ++ q.set (i - p.length) x := List.set_append_right _ _ h
/-- A byte behind the head that is another: of the form, but of another sum. -/
theorem turned {f : F} (h : f.is = true) (hd : okL f.d) (own : St) (ho : own.may = true) (hown : f.k = 1 → own.seed = f.st.seed) {i : Nat} (hi : f.hl ≤ i) (hi2 : i < f.bytes.length) (x : Int) (hx : 0 ≤ x ∧ x < 256) (hne : x ≠ f.bytes.getD i 0) :
    formB (f.bytes.set i x) own = true ∧ sumB (f.bytes.set i x) own = false := by
  obtain ⟨hF, -, hS⟩ := back h own ho
  obtain ⟨hk, hs, hd8⟩ := f.is_iff.1 h
  have hat := F.at_bytes f
  have hform : formB (f.bytes.set i x) own = true := by
    rw [form_alike own (by simp) fun j hj => getD_set_ne (by omega)]
    exact hF
  refine ⟨hform, ?_⟩
  have hkd : kd (f.bytes.set i x) = kd f.bytes := getD_set_ne (by omega)
  have hsd : sdOf (f.bytes.set i x) own = sdOf f.bytes own := by unfold sdOf; rw [hkd]
  have hsum : sumB f.bytes own = true := hS.2 hown
  have hb : f.bytes = f.body ++ two (sumL f.seed f.body) := rfl
  have hsd2 : sdOf f.bytes own = f.seed := by
    have hkb : kd f.bytes = f.k := by
      by_cases h1 : f.k = 1
      · rw [F.bytes_normal h1, h1]; rfl
      · rw [F.bytes_told h1]; rfl
    unfold sdOf F.seed
    rw [hkb]
    split
    · rename_i h1; exact hown h1
    · rfl
  rw [Bool.eq_false_iff]
  intro h2
  unfold sumB at h2
  rw [hsd, hsd2, beq_iff_eq] at h2
  have hlen := F.bytes_length f
  have hbl := F.body_length f
  by_cases hib : i < f.body.length
  · rw [hb, set_app_left hib] at h2
    obtain ⟨e1, e2⟩ := cut_tail (f.body.set i x) (two (sumL f.seed f.body)) rfl
    rw [e1, e2] at h2
    have e3 := two_inj h2
    have hbi : f.bytes.getD i 0 = f.body[i] := by
      rw [hb, getD_app hib, List.getD_eq_getElem?_getD, List.getElem?_eq_getElem hib, Option.getD_some]
    have hpq : f.body = f.body.take i ++ f.body[i] :: f.body.drop (i + 1) := by simp
    have hpq2 : f.body.set i x = f.body.take i ++ x :: f.body.drop (i + 1) := by
      rw [List.set_eq_take_append_cons_drop, if_pos hib]
    have hby := F.body_ok h hd
    refine sum_turned (s := f.seed) (f.body.take i) (f.body.drop (i + 1)) x f.body[i] hx (hby _ (List.getElem_mem _)) (by rw [← hbi]; exact hne) ?_
    rw [← hpq2, ← hpq]
    exact e3
  · rw [hb, set_app_right (by omega)] at h2
    obtain ⟨e1, e2⟩ := cut_tail f.body ((two (sumL f.seed f.body)).set (i - f.body.length) x) (by simp [two])
    rw [e1, e2] at h2
    refine hne ?_
    rw [hb, List.getD_eq_getElem?_getD, List.getElem?_append_right (by omega)]
    have hi3 : i - f.body.length < (two (sumL f.seed f.body)).length := by simp [two]; omega
    have e4 := congrArg (fun l => l[i - f.body.length]?) h2
    simp only [List.getElem?_set_self hi3] at e4
    rw [e4]
    rfl

end Fr
end Go.Proofs.YtpdenmcacaajkaaGreat

/-! ### CrcA -/
namespace Go.Proofs.YtpdenmcacaajkaaGreat
open Go.RowKit

/-- The digit that falls out, xored with the bit. -/
theorem top_of (n c r : Nat) (hn : n < 32768) :
    bits BinOp.xor IntKind.i64 ((n : Int) / 16384) (bits BinOp.and IntKind.i64 ((c : Int) / 2 ^ r) 1) = if (n.testBit 14 != c.testBit r) then 1 else 0 := by
  have e1 : ((n : Int) / 16384) = ((n / 16384 : Nat) : Int) := by omega
  have e2 : bits BinOp.and IntKind.i64 ((c : Int) / 2 ^ r) 1 = ((c / 2 ^ r % 2 : Nat) : Int) := by
    have e : ((c : Int) / 2 ^ r) = ((c / 2 ^ r : Nat) : Int) := by
      rw [Int.natCast_ediv, Int.natCast_pow]; rfl
    rw [e]
    have hle : c / 2 ^ r ≤ c := Nat.div_le_self _ _
    show IntKind.i64.wrap ((BitVec.ofInt 64 ((c / 2 ^ r : Nat) : Int) &&& BitVec.ofInt 64 1).toNat : Int) = _
    rw [BitVec.toNat_and, show (BitVec.ofInt 64 1).toNat = 2 ^ 1 - 1 by decide, Nat.and_two_pow_sub_one_eq_mod, BitVec.toNat_ofInt, IntKind.wrap_i64]
    omega
  have h2 : c / 2 ^ r % 2 < 2 := Nat.mod_lt _ (by omega)
  rw [e1, e2, Cr.xor_small (by omega) (by omega), Nat.testBit_eq_decide_div_mod_eq, Nat.testBit_eq_decide_div_mod_eq]
  have h1 : n / 16384 < 2 := by omega
  have h3 : n / 2 ^ 14 % 2 = n / 16384 := by omega
  rw [h3]
  generalize n / 16384 = x at *
  generalize c / 2 ^ r % 2 = y at *
  have : x = 0 ∨ x = 1 := by omega
  have : y = 0 ∨ y = 1 := by omega
  rcases ‹x = 0 ∨ x = 1› with rfl | rfl <;> rcases ‹y = 0 ∨ y = 1› with rfl | rfl <;> decide
/-- The rest, times two. -/
theorem dbl_of (n : Nat) : bits BinOp.and IntKind.i64 ((n : Int) * 2) 32767 = ((2 * n % 32768 : Nat) : Int) := by
  rw [Cr.and_sd]
  unfold Cr.sd
  omega
theorem bit1_on {n : Nat} {b : Bool} (h : (n.testBit 14 != b) = true) : bits BinOp.xor IntKind.i64 (bits BinOp.and IntKind.i64 ((n : Int) * 2) 32767) 17817 = ((Cr.bit1 n b : Nat) : Int) := by
  rw [dbl_of n, Cr.bit1, if_pos h]
  exact Cr.xor_small (n := 17817) (by omega) (by omega)
theorem bit1_off {n : Nat} {b : Bool} (h : (n.testBit 14 != b) = false) : bits BinOp.and IntKind.i64 ((n : Int) * 2) 32767 = ((Cr.bit1 n b : Nat) : Int) := by
  rw [dbl_of n, Cr.bit1, if_neg (by rw [h]; decide)]

theorem step_any (n c : Nat) (w : World) (hn : n < 32768) :
    Calls Tryz.prog 164 #[.int .i64 n, .int .i64 c] w fun e w' => e = .returned (.int .i64 (Cr.byte1 n c : Nat)) ∧ w = w' := by
  go_enter Tryz.func164, Tryz.ntmps164
  go_wp2
  go_loop [0, 5, 6] (fun s i _ => ∃ j r : Nat, s = .int .i64 (Cr.byteTo n c j : Nat) ∧ ((r < 8 ∧ i = .int .i64 r ∧ j + r = 7) ∨ (r = 8 ∧ i = .int .i64 (-1) ∧ j = 8))) (fun _ i _ => ((intOf i) + 1).toNat)
  case atStart => exact ⟨0, 7, rfl, .inl ⟨by omega, rfl, rfl⟩⟩
  case round =>
    obtain ⟨j, r, rfl, hr⟩ := hrel
    rcases hr with ⟨hr8, rfl, hjr⟩ | ⟨rfl, rfl, rfl⟩
    · have hm := Cr.byteTo_lt hn c j
      have hj1 : j + r ≤ 7 := by omega
      have hj2 : 7 ≤ j + r := by omega
      have ht := top_of (Cr.byteTo n c j) c r hm
      have HS := Lib.hid (show Cr.byteTo n c (j + 1) = Cr.bit1 (Cr.byteTo n c j) (c.testBit r) by rw [Cr.byteTo, show 7 - j = r by omega])
      clear hjr
      have H1 := fun h => Lib.hid (bit1_on (n := Cr.byteTo n c j) (b := c.testBit r) h)
      have H2 := fun h => Lib.hid (bit1_off (n := Cr.byteTo n c j) (b := c.testBit r) h)
      have hbb : ((Cr.byteTo n c j).testBit 14 != c.testBit r) = true ∨ ((Cr.byteTo n c j).testBit 14 != c.testBit r) = false := by cases ((Cr.byteTo n c j).testBit 14 != c.testBit r) <;> simp
      rcases hbb with hb | hb
      case' inl =>
        have HV := Lib.hid (HS.out ▸ (H1 hb).out : _ = ((Cr.byteTo n c (j + 1) : Nat) : Int))
        rw [hb, if_pos rfl] at ht
      case' inr =>
        have HV := Lib.hid (HS.out ▸ (H2 hb).out : _ = ((Cr.byteTo n c (j + 1) : Nat) : Int))
        rw [hb, if_neg (by decide)] at ht
      all_goals
        clear H1 H2 HS hb
        generalize Cr.byteTo n c j = m at *
        rcases Nat.eq_zero_or_pos r with h0 | h0
        case' inl =>
          subst h0
          rw [Int.pow_zero, Int.ediv_one] at ht
        case' inr => obtain ⟨r, rfl⟩ : ∃ r', r = r' + 1 := ⟨r - 1, by omega⟩
        all_goals
          go_wp2
          go_round
          case rel => first | exact ⟨j + 1, r, by rw [HV.out], .inl ⟨by omega, by go_num, by omega⟩⟩ | exact ⟨j + 1, 8, by rw [HV.out], .inr ⟨rfl, rfl, by omega⟩⟩
          case measure => simp [intOf]; try omega
    · go_wp2
      go_ret
      exact ⟨rfl, rfl⟩
end Go.Proofs.YtpdenmcacaajkaaGreat

/-! ### CrcB -/
namespace Go.Proofs.YtpdenmcacaajkaaGreat
open Go.RowKit

theorem sum_any (L : Option Addr) (m C B : Nat) (A : Nat → Option Addr) (N c : Nat → Nat) (z : Nat → Nat → Int) (a : Int) (w : World)
    (h : Sees w B L m fun i => .slice (A i) (N i) (c i)) (hrow : ∀ i, i < m → Sees w B (A i) (N i) fun k => .int .u8 (z i k)) (hz : ∀ i k, i < m → k < N i → 0 ≤ z i k ∧ z i k < 256) (hm : m ≤ maxLen) (hN : ∀ i, i < m → N i ≤ maxLen) :
    Calls Tryz.prog 144 #[.int .i64 a, .slice L m C] w fun e w' => e = .returned (.int .i64 (Cr.rowsTo (Cr.sd a) z N m : Nat)) ∧ w = w' := by
  unfold maxLen at hm hN
  have hsd := Cr.sd_lt a
  have hand := Cr.and_sd a
  go_enter Tryz.func144, Tryz.ntmps144
  go_wp2
  clear hand
  go_loop [5, 14] (fun s i => ∃ k : Nat, k ≤ m ∧ i = .int .i64 k ∧ s = .int .i64 (Cr.rowsTo (Cr.sd a) z N k : Nat)) (fun _ i => m - (intOf i).toNat)
  case atStart => exact ⟨0, by omega, rfl, rfl⟩
  case round =>
    obtain ⟨i, hi, rfl, rfl⟩ := hrel
    by_cases hlt : i < m
    · obtain ⟨b0, off, rfl, hbb, hcell⟩ := h (by omega)
      have hx : w.cell? ⟨b0, off + i, none⟩ = some (.slice (A i) (N i) (c i)) := hcell i hlt
      have hni := hN i hlt
      have hs := hrow i hlt
      have hzi := fun k => hz i k hlt
      have hn := Cr.rowsTo_lt hsd z N i
      have HS := Lib.hid (show Cr.rowsTo (Cr.sd a) z N (i + 1) = Cr.sumTo (Cr.rowsTo (Cr.sd a) z N i) (z i) (N i) from rfl)
      generalize Cr.rowsTo (Cr.sd a) z N i = n at *
      clear hcell
      go_wp2
      go_loop [5, 20] (fun s j => ∃ k : Nat, k ≤ N i ∧ j = .int .i64 k ∧ s = .int .i64 (Cr.sumTo n (z i) k : Nat)) (fun _ j => N i - (intOf j).toNat)
      case atStart => exact ⟨0, by omega, rfl, rfl⟩
      case round =>
        obtain ⟨k, hk, rfl, rfl⟩ := hrel
        by_cases hlk : k < N i
        · obtain ⟨b1, off1, hA, hbb1, hcell1⟩ := hs (by omega)
          rw [hA]
          have hy : w.cell? ⟨b1, off1 + k, none⟩ = some (.int .u8 (z i k)) := hcell1 k hlk
          have hzk := hzi k hlk
          obtain ⟨x, hxz⟩ := Int.eq_ofNat_of_zero_le hzk.1
          have HK := Lib.hid (show Cr.sumTo n (z i) (k + 1) = Cr.byte1 (Cr.sumTo n (z i) k) x by rw [Cr.sumTo, hxz]; rfl)
          rw [hxz] at hy
          have hx2 : x < 256 := by omega
          have hl := Cr.sumTo_lt hn (z i) k
          clear hcell1 hA hxz hzk hx
          go_wp2_with (go_at_call 164; refine (step_any _ x _ hl).mono ?_; rintro e w' ⟨rfl, rfl⟩)
          go_round
          case rel => exact ⟨k + 1, by omega, by go_num, by rw [HK.out]⟩
          case measure => simp [intOf]; omega
        · obtain rfl : k = N i := by omega
          go_wp2
          go_round
          case rel => exact ⟨i + 1, by omega, by go_num, by rw [HS.out]⟩
          case measure => simp [intOf]; omega
    · obtain rfl : i = m := by omega
      go_wp2
      go_ret
      exact ⟨rfl, rfl⟩

/-- One row in a new list, and its sum. -/
theorem sees_only (w : World) (B : Nat) (e : TypeId) (u : Value) (hB : w.heap.size < B) (V : Nat → Value) (hV : V 0 = u) : Sees (w.alloc (.cells #[u] e)) B (some ⟨w.heap.size, 0, none⟩) 1 V := fun _ =>
  ⟨_, _, rfl, hB, fun k hk => by
    obtain rfl : k = 0 := by omega
    rw [World.cell?_alloc_at _ _ _ _ rfl, hV]
    rfl⟩
theorem sum_one (A : Option Addr) (n c : Nat) (z : Nat → Int) (a : Int) (w : World) (e : TypeId) (g : Nat) (hg : g = w.heap.size) (h : Sees w w.heap.size A n fun k => .int .u8 (z k)) (hz : ∀ k, k < n → 0 ≤ z k ∧ z k < 256) (hn : n ≤ maxLen) :
    Calls Tryz.prog 144 #[.int .i64 a, .slice (some ⟨g, 0, none⟩) 1 1] (w.alloc (.cells #[.slice A n c] e)) fun e' w' => e' = .returned (.int .i64 (Cr.sumTo (Cr.sd a) z n : Nat)) ∧ w.alloc (.cells #[.slice A n c] e) = w' := by
  subst hg
  exact sum_any _ 1 1 (w.heap.size + 1) (fun _ => A) (fun _ => n) (fun _ => c) (fun _ => z) a _ (sees_only w _ e _ (by omega) _ rfl) (fun i _ => (h.below ((Below.refl _ _).alloc (Nat.le_refl _) _)).more (by omega)) (fun i k _ hk => hz k hk) (by unfold maxLen; omega) (fun _ _ => hn)

end Go.Proofs.YtpdenmcacaajkaaGreat

/-! ### CrcC -/
namespace Go.Proofs.YtpdenmcacaajkaaGreat
open Go.ChangeShapes Go.WideShapes Go.ChangeAt Go.RowKit

end Go.Proofs.YtpdenmcacaajkaaGreat

/-! ### FrA -/
namespace Go.Proofs.YtpdenmcacaajkaaGreat
open Go.RowKit
open Fr (St F)

def stV (s : St) : Value := .agg #[.int .i64 s.r, .int .i64 s.s, .int .i64 s.m]
def frV (f : F) (v : Value) : Value := .agg #[.int .i64 f.k, .int .i64 f.st.r, .int .i64 f.st.s, .int .i64 f.st.m, v]

/-- What a block that was there bears, behind a call. -/
theorem bcell {W w1 : World} {B : Nat} (hb : Below B W w1) : ∀ b o, b < B → w1.cell? ⟨b, o, none⟩ = W.cell? ⟨b, o, none⟩ := fun b o h => hb.cell (p := ⟨b, o, none⟩) h

/-- A new block of five cells, and what reads it behind calls. -/
structure Box5 (w w0 : World) (x0 x1 x2 x3 x4 : Value) : Prop where
  size : w0.heap.size = w.heap.size + 1
  below : Below w.heap.size w w0
  cell : ∀ W, Below w0.heap.size w0 W → w.heap.size < W.heap.size ∧ W.cell? ⟨w.heap.size, 0, none⟩ = some x0 ∧ W.cell? ⟨w.heap.size, 1, none⟩ = some x1 ∧ W.cell? ⟨w.heap.size, 2, none⟩ = some x2 ∧ W.cell? ⟨w.heap.size, 3, none⟩ = some x3 ∧ W.cell? ⟨w.heap.size, 4, none⟩ = some x4
theorem box5 (w : World) (x0 x1 x2 x3 x4 : Value) (t : TypeId) : Box5 w (w.alloc (.cells #[x0, x1, x2, x3, x4] t)) x0 x1 x2 x3 x4 := by
  refine ⟨by simp, (Below.refl _ _).alloc (Nat.le_refl _) _, fun W hb => ?_⟩
  have hz := hb.size
  have hc := bcell hb
  simp only [World.size_alloc] at hz
  refine ⟨by omega, ?_, ?_, ?_, ?_, ?_⟩ <;> (rw [hc _ _ (by simp), World.cell?_alloc_at _ _ _ _ rfl]; rfl)
structure Box3 (w w0 : World) (x0 x1 x2 : Value) : Prop where
  size : w0.heap.size = w.heap.size + 1
  below : Below w.heap.size w w0
  cell : ∀ W, Below w0.heap.size w0 W → w.heap.size < W.heap.size ∧ W.cell? ⟨w.heap.size, 0, none⟩ = some x0 ∧ W.cell? ⟨w.heap.size, 1, none⟩ = some x1 ∧ W.cell? ⟨w.heap.size, 2, none⟩ = some x2
end Go.Proofs.YtpdenmcacaajkaaGreat

/-! ### FrB -/
namespace Go.Proofs.YtpdenmcacaajkaaGreat
open Go.RowKit
open Fr (St F)

theorem owns_empty (w : World) (e : TypeId) (he : e = 5) (B g : Nat) (hB : B ≤ w.heap.size) (hg : g = w.heap.size) : OwnsL (w.alloc (.cells #[] e)) B (.slice (some ⟨g, 0, none⟩) 0 0) [] := by
  subst he hg
  exact World.ownsRow_made w #[] 0 hB (by unfold maxLen; omega) rfl

/-- What is written of a frame, and the error. -/
def encR (f : F) : List Int := if f.is then f.bytes else []
def encE (f : F) : Int := if f.is then 0 else 1
def Enc (w : World) (f : F) (e : Ending) (w' : World) : Prop := ∃ v, e = .returned (.tuple #[v, .int .i64 (encE f)]) ∧ OwnsL w' w.heap.size v (encR f) ∧ Below w.heap.size w w'
end Go.Proofs.YtpdenmcacaajkaaGreat
