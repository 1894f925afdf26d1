/-
  Plain facts about numbers, for the seat's walks: the sum's step through two tables of halves is eight steps of one bit; each step loses nothing.
  Conditions: registers below 2^32, bytes below 2^8. Nothing of the program is imported here.
-/
namespace Go.Proofs.YtjdjpafnakhpcaaDoor.Nums

/-- One step of one bit. -/
def bit1 (c : Nat) : Nat := (c / 2) ^^^ (if c % 2 = 1 then 2197175160 else 0)
def bits8 (c : Nat) : Nat := bit1 (bit1 (bit1 (bit1 (bit1 (bit1 (bit1 (bit1 c)))))))
def bitN : Nat → Nat → Nat
  | 0, c => c
  | n + 1, c => bitN n (bit1 c)
theorem bitN_succ (n c : Nat) : bitN (n + 1) c = bit1 (bitN n c) := by
  induction n generalizing c with
  | zero => rfl
  | succ n ih => exact ih (bit1 c)
theorem bitN_8 (c : Nat) : bitN 8 c = bits8 c := rfl

def lowT : List Nat := [0, 4067132163, 3778769143, 324072436, 3348797215, 904991772, 648144872, 3570033899, 2329499855, 2024987596, 1809983544, 2575936315, 1296289744, 3207089363, 2893594407, 1578318884]
def highT : List Nat := [0, 274646895, 549293790, 820201905, 1098587580, 1361435347, 1640403810, 1905808397, 2197175160, 2460548119, 2722870694, 2987750089, 3280807620, 3553878443, 3811616794, 4084100981]
def low (i : Nat) : Nat := lowT.getD i 0
def high (i : Nat) : Nat := highT.getD i 0

/-- The step through the tables. -/
def step (s x : Nat) : Nat := ((s / 256) ^^^ low ((x ^^^ (s % 256)) % 16)) ^^^ high ((x ^^^ (s % 256)) / 16)

theorem div2_xor (a b : Nat) : (a ^^^ b) / 2 = (a / 2) ^^^ (b / 2) := by
  have h := Nat.shiftRight_xor_distrib (a := a) (b := b) (i := 1)
  simpa [Nat.shiftRight_eq_div_pow] using h
theorem mod2_xor (a b : Nat) : (a ^^^ b) % 2 = (a % 2 + b % 2) % 2 := by
  have h := Nat.testBit_xor a b 0
  simp only [Nat.testBit_zero] at h
  have ha : a % 2 = 0 ∨ a % 2 = 1 := by omega
  have hb : b % 2 = 0 ∨ b % 2 = 1 := by omega
  have hc : (a ^^^ b) % 2 = 0 ∨ (a ^^^ b) % 2 = 1 := by omega
  rcases ha with ha | ha <;> rcases hb with hb | hb <;> rcases hc with hc | hc <;> simp [ha, hb, hc] at h ⊢
theorem xor_swap (a b c d : Nat) : (a ^^^ b) ^^^ (c ^^^ d) = (a ^^^ c) ^^^ (b ^^^ d) := by
  rw [Nat.xor_assoc, ← Nat.xor_assoc b c d, Nat.xor_comm b c, Nat.xor_assoc c b d, ← Nat.xor_assoc]
theorem bit1_xor (a b : Nat) : bit1 (a ^^^ b) = bit1 a ^^^ bit1 b := by
  unfold bit1
  rw [div2_xor, mod2_xor, xor_swap]
  congr 1
  have ha : a % 2 = 0 ∨ a % 2 = 1 := by omega
  have hb : b % 2 = 0 ∨ b % 2 = 1 := by omega
  rcases ha with ha | ha <;> rcases hb with hb | hb <;> simp [ha, hb]
theorem bits8_xor (a b : Nat) : bits8 (a ^^^ b) = bits8 a ^^^ bits8 b := by unfold bits8; simp only [bit1_xor]
theorem bit1_double (h : Nat) : bit1 (2 * h) = h := by
  unfold bit1
  have h1 : 2 * h % 2 = 0 := by omega
  have h2 : 2 * h / 2 = h := by omega
  rw [h1, h2]; simp
theorem bits8_high (h : Nat) : bits8 (256 * h) = h := by
  have e : 256 * h = 2 * (2 * (2 * (2 * (2 * (2 * (2 * (2 * h))))))) := by omega
  rw [e]
  unfold bits8
  simp only [bit1_double]
set_option maxRecDepth 100000 in
theorem bits8_table : ∀ y : Fin 256, bits8 y.val = low (y.val % 16) ^^^ high (y.val / 16) := by decide +kernel
theorem xor_lt_256 {a b : Nat} (ha : a < 256) (hb : b < 256) : a ^^^ b < 256 := Nat.xor_lt_two_pow (n := 8) ha hb
theorem xor_lt_32 {a b : Nat} (ha : a < 4294967296) (hb : b < 4294967296) : a ^^^ b < 4294967296 := Nat.xor_lt_two_pow (n := 32) ha hb
theorem split_256 (s : Nat) : s = (256 * (s / 256)) ^^^ (s % 256) := by
  have h := Nat.two_pow_add_eq_or_of_lt (i := 8) (b := s % 256) (by omega) (s / 256)
  apply Nat.eq_of_testBit_eq
  intro i
  have hs : s = 2 ^ 8 * (s / 256) + s % 256 := by omega
  have e1 : s.testBit i = (2 ^ 8 * (s / 256) ||| s % 256).testBit i := by rw [← h, ← hs]
  rw [e1, Nat.testBit_or, Nat.testBit_xor]
  show ((256 * (s / 256)).testBit i || (s % 256).testBit i) = _
  by_cases hi : i < 8
  · have : (256 * (s / 256)).testBit i = false := by
      have := Nat.testBit_two_pow_mul (i := 8) (a := s / 256) (j := i)
      simp only [show (2 : Nat) ^ 8 = 256 from rfl] at this
      rw [this]; simp; omega
    simp [this]
  · have : (s % 256).testBit i = false := Nat.testBit_lt_two_pow (Nat.lt_of_lt_of_le (Nat.mod_lt s (by decide)) (by
      have : 2 ^ 8 ≤ 2 ^ i := Nat.pow_le_pow_right (by omega) (by omega)
      simpa using this))
    simp [this]
/-- The tables' step is eight steps of one bit. -/
theorem step_eq (s x : Nat) (hx : x < 256) : step s x = bits8 (s ^^^ x) := by
  have hy : x ^^^ (s % 256) < 256 := xor_lt_256 hx (Nat.mod_lt _ (by decide))
  have e : s ^^^ x = (256 * (s / 256)) ^^^ (x ^^^ (s % 256)) := by
    conv => lhs; rw [split_256 s]
    rw [Nat.xor_assoc, Nat.xor_comm (s % 256) x]
  rw [e, bits8_xor, bits8_high]
  have t := bits8_table ⟨x ^^^ (s % 256), hy⟩
  simp only at t
  rw [t]
  unfold step
  rw [Nat.xor_assoc]
theorem bit1_lt {c : Nat} (h : c < 4294967296) : bit1 c < 4294967296 := by
  unfold bit1
  refine xor_lt_32 (by omega) ?_
  split <;> decide
theorem bitN_lt (n : Nat) {c : Nat} (h : c < 4294967296) : bitN n c < 4294967296 := by
  induction n generalizing c with
  | zero => exact h
  | succ n ih => exact ih (bit1_lt h)
theorem bits8_lt {c : Nat} (h : c < 4294967296) : bits8 c < 4294967296 := by
  unfold bits8
  exact bit1_lt (bit1_lt (bit1_lt (bit1_lt (bit1_lt (bit1_lt (bit1_lt (bit1_lt h)))))))
theorem bit1_inj {a b : Nat} (ha : a < 4294967296) (hb : b < 4294967296) (h : bit1 a = bit1 b) : a = b := by
  have top : ∀ c, c < 4294967296 → (bit1 c).testBit 31 = decide (c % 2 = 1) := by
    intro c hc
    unfold bit1
    rw [Nat.testBit_xor]
    have h1 : (c / 2).testBit 31 = false := Nat.testBit_lt_two_pow (by simp; omega)
    rw [h1]
    have hp : (2197175160 : Nat).testBit 31 = true := by decide
    by_cases hm : c % 2 = 1 <;> simp [hm, hp]
  have h2 : decide (a % 2 = 1) = decide (b % 2 = 1) := by rw [← top a ha, ← top b hb, h]
  have h3 : a % 2 = b % 2 := by
    have ha2 : a % 2 = 0 ∨ a % 2 = 1 := by omega
    have hb2 : b % 2 = 0 ∨ b % 2 = 1 := by omega
    rcases ha2 with e1 | e1 <;> rcases hb2 with e2 | e2 <;> simp [e1, e2] at h2 ⊢
  unfold bit1 at h
  rw [h3] at h
  have h4 : a / 2 = b / 2 := by
    have := congrArg (· ^^^ (if b % 2 = 1 then 2197175160 else 0)) h
    simpa [Nat.xor_assoc] using this
  omega
theorem bits8_inj {a b : Nat} (ha : a < 4294967296) (hb : b < 4294967296) (h : bits8 a = bits8 b) : a = b := by
  unfold bits8 at h
  have l1 := bit1_lt ha; have l2 := bit1_lt l1; have l3 := bit1_lt l2; have l4 := bit1_lt l3; have l5 := bit1_lt l4; have l6 := bit1_lt l5; have l7 := bit1_lt l6
  have m1 := bit1_lt hb; have m2 := bit1_lt m1; have m3 := bit1_lt m2; have m4 := bit1_lt m3; have m5 := bit1_lt m4; have m6 := bit1_lt m5; have m7 := bit1_lt m6
  exact bit1_inj ha hb (bit1_inj l1 m1 (bit1_inj l2 m2 (bit1_inj l3 m3 (bit1_inj l4 m4 (bit1_inj l5 m5 (bit1_inj l6 m6 (bit1_inj l7 m7 h)))))))
theorem xor_cancel_left {a b c : Nat} (h : a ^^^ b = a ^^^ c) : b = c := by
  have := congrArg (a ^^^ ·) h
  simpa [← Nat.xor_assoc] using this
theorem xor_cancel_right {a b c : Nat} (h : a ^^^ c = b ^^^ c) : a = b := by
  have := congrArg (· ^^^ c) h
  simpa [Nat.xor_assoc] using this

/-- The registers over bytes. -/
def run (s : Nat) (l : List Nat) : Nat := l.foldl step s
theorem run_nil (s : Nat) : run s [] = s := rfl
theorem run_cons (s x : Nat) (l : List Nat) : run s (x :: l) = run (step s x) l := rfl
theorem run_append (s : Nat) (l m : List Nat) : run s (l ++ m) = run (run s l) m := by unfold run; rw [List.foldl_append]
theorem step_lt {s x : Nat} (hs : s < 4294967296) (hx : x < 256) : step s x < 4294967296 := by
  rw [step_eq s x hx]; exact bits8_lt (xor_lt_32 hs (by omega))
theorem run_lt {l : List Nat} (hl : ∀ x ∈ l, x < 256) {s : Nat} (hs : s < 4294967296) : run s l < 4294967296 := by
  induction l generalizing s with
  | nil => exact hs
  | cons x l ih => exact ih (fun y hy => hl y (List.mem_cons_of_mem _ hy)) (step_lt hs (hl x (List.mem_cons_self ..)))
theorem run_inj {l : List Nat} (hl : ∀ x ∈ l, x < 256) {s t : Nat} (hs : s < 4294967296) (ht : t < 4294967296) (h : run s l = run t l) : s = t := by
  induction l generalizing s t with
  | nil => exact h
  | cons x l ih =>
    have hx := hl x (List.mem_cons_self ..)
    have e := ih (fun y hy => hl y (List.mem_cons_of_mem _ hy)) (step_lt hs hx) (step_lt ht hx) h
    rw [step_eq s x hx, step_eq t x hx] at e
    exact xor_cancel_right (bits8_inj (xor_lt_32 hs (by omega)) (xor_lt_32 ht (by omega)) e)
theorem run_take_succ (s : Nat) (l : List Nat) (k : Nat) (hk : k < l.length) : run s (l.take (k + 1)) = step (run s (l.take k)) (l.getD k 0) := by
  rw [List.take_succ_eq_append_getElem hk, run_append]
  simp [run_cons, run_nil, List.getD, List.getElem?_eq_getElem hk]
/-- One byte that is another one makes another register. -/
theorem run_set_ne {l : List Nat} (hl : ∀ x ∈ l, x < 256) {s : Nat} (hs : s < 4294967296) (k : Nat) (hk : k < l.length) (v : Nat) (hv : v < 256) (hne : v ≠ l.getD k 0) : run s l ≠ run s (l.set k v) := by
  induction l generalizing s k with
  | nil => simp at hk
  | cons x l ih =>
    have hx := hl x (List.mem_cons_self ..)
    have hl' : ∀ y ∈ l, y < 256 := fun y hy => hl y (List.mem_cons_of_mem _ hy)
    cases k with
    | zero =>
      intro h
      rw [List.set_cons_zero, run_cons, run_cons] at h
      have e := run_inj hl' (step_lt hs hx) (step_lt hs hv) h
      rw [step_eq s x hx, step_eq s v hv] at e
      have := xor_cancel_left (bits8_inj (xor_lt_32 hs (by omega)) (xor_lt_32 hs (by omega)) e)
      exact hne (by simpa using this.symm)
    | succ k =>
      rw [List.set_cons_succ, run_cons, run_cons]
      exact ih hl' (step_lt hs hx) k (by simpa using hk) (by simpa using hne)

/-- The sum: begun and ended with all bits turned. -/
def sum (seed : Nat) (l : List Nat) : Nat := run (seed ^^^ 4294967295) l ^^^ 4294967295
theorem sum_nil (seed : Nat) : sum seed [] = seed := by unfold sum; rw [run_nil, Nat.xor_assoc, Nat.xor_self, Nat.xor_zero]
theorem sum_append (seed : Nat) (l m : List Nat) : sum seed (l ++ m) = sum (sum seed l) m := by
  unfold sum
  rw [run_append, Nat.xor_assoc (run _ l), Nat.xor_self, Nat.xor_zero]
theorem sum_lt {l : List Nat} (hl : ∀ x ∈ l, x < 256) {s : Nat} (hs : s < 4294967296) : sum s l < 4294967296 := xor_lt_32 (run_lt hl (xor_lt_32 hs (by decide))) (by decide)
theorem sum_set_ne {l : List Nat} (hl : ∀ x ∈ l, x < 256) {s : Nat} (hs : s < 4294967296) (k : Nat) (hk : k < l.length) (v : Nat) (hv : v < 256) (hne : v ≠ l.getD k 0) : sum s l ≠ sum s (l.set k v) :=
  fun h => run_set_ne hl (xor_lt_32 hs (by decide)) k hk v hv hne (xor_cancel_right h)
theorem sum_digits : sum 0 [49, 50, 51, 52, 53, 54, 55, 56, 57] = 3808858755 := by decide +kernel
end Go.Proofs.YtjdjpafnakhpcaaDoor.Nums
