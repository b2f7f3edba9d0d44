/- Layer site: names of tickets, digit by digit; words and contracts. No condition. -/
import Derived.Test.YtdfgidogiacmnaaDoorVb
import Derived.Lib.ItoaNum
import Derived.Lib.ItoaLen
import Derived.Lib.LaidTab
import Derived.Lib.ParseIntBCases
set_option linter.unusedVariables false
set_option linter.unusedSimpArgs false
set_option linter.deprecated false
namespace Go.Proofs.YtdfgidogiacmnaaDoor.sih
open Go Go.Proofs.YtdfgidogiacmnaaDoor.Sx
/- digits -/
theorem dig {d : Nat} (h : d < 10) : (UInt8.ofNat (48 + d)).toNat = 48 + d := by
  rw [UInt8.toNat_ofNat']
  exact Nat.mod_eq_of_lt (by omega)
def valD (l : List UInt8) : Nat := l.foldl (fun a b => 10 * a + (b.toNat - 48)) 0
theorem val_dec (u : Nat) : valD (Lib.decDigits u) = u := by
  induction u using Nat.strongRecOn with
  | _ u ih =>
    rw [Lib.decDigits]
    split
    · rename_i h
      show 10 * 0 + ((UInt8.ofNat (48 + u)).toNat - 48) = u
      rw [dig h]; omega
    · rename_i h
      have e := ih (u / 10) (by omega)
      unfold valD at e ⊢
      rw [List.foldl_append, e]
      show 10 * (u / 10) + ((UInt8.ofNat (48 + u % 10)).toNat - 48) = u
      rw [dig (by omega)]; omega
theorem dec_ne (u : Nat) : ∀ b ∈ Lib.decDigits u, b ≠ 46 := by
  induction u using Nat.strongRecOn with
  | _ u ih =>
    rw [Lib.decDigits]
    have one : ∀ d, d < 10 → UInt8.ofNat (48 + d) ≠ 46 := fun d h e => by
      have := dig h
      rw [e] at this
      have h46 : (46 : UInt8).toNat = 46 := rfl
      omega
    split
    · rename_i h
      intro b hb
      rw [List.mem_singleton.1 hb]
      exact one u h
    · rename_i h
      intro b hb
      rcases List.mem_append.1 hb with hb | hb
      · exact ih (u / 10) (by omega) b hb
      · rw [List.mem_singleton.1 hb]
        exact one _ (by omega)
def encB (b : UInt8) : List Value := [.int .u8 b.toNat]
theorem enc_inj {a b : UInt8} (h : encB a = encB b) : a = b := by
  simp only [encB, List.cons.injEq, Value.int.injEq, true_and, and_true] at h
  exact UInt8.toNat_inj.1 (by omega)
theorem map_inj : ∀ {l m : List UInt8}, l.map encB = m.map encB → l = m
  | [], [], _ => rfl
  | [], _ :: _, h => by simp at h
  | _ :: _, [], h => by simp at h
  | a :: l, b :: m, h => by
    simp only [List.map_cons, List.cons.injEq] at h
    rw [enc_inj h.1, map_inj h.2]
/-- A number's text. -/
def decL (n : Int) : LV := (Lib.itoa n).map encB
theorem itoa_of {n : Int} (h : 0 ≤ n) : Lib.itoa n = Lib.decDigits n.toNat := by unfold Lib.itoa; rw [if_neg (by omega)]
theorem dec_inj {n m : Int} (hn : 0 ≤ n) (hm : 0 ≤ m) (h : decL n = decL m) : n = m := by
  have e := map_inj h
  rw [itoa_of hn, itoa_of hm] at e
  have := congrArg valD e
  rw [val_dec, val_dec] at this
  omega
def dotV : List Value := [.int .u8 46]
theorem dec_dot {n : Int} (hn : 0 ≤ n) : dotV ∉ decL n := by
  unfold decL
  rw [itoa_of hn]
  intro h
  obtain ⟨b, hb, e⟩ := List.mem_map.1 h
  have e46 : encB 46 = dotV := rfl
  exact dec_ne _ b hb (enc_inj (e.trans e46.symm))
theorem split_eq {α : Type} {x : α} : ∀ {a c b d : List α}, x ∉ a → x ∉ c → a ++ x :: b = c ++ x :: d → a = c ∧ b = d
  | [], [], b, d, _, _, h => by simpa using h
  | [], y :: c, b, d, _, hc, h => by
    simp only [List.nil_append, List.cons_append, List.cons.injEq] at h
    exact absurd (h.1 ▸ List.mem_cons_self ..) hc
  | y :: a, [], b, d, ha, _, h => by
    simp only [List.nil_append, List.cons_append, List.cons.injEq] at h
    exact absurd (h.1 ▸ List.mem_cons_self ..) ha
  | y :: a, z :: c, b, d, ha, hc, h => by
    simp only [List.cons_append, List.cons.injEq] at h
    obtain ⟨e1, e2⟩ := split_eq (fun m => ha (List.mem_cons_of_mem _ m)) (fun m => hc (List.mem_cons_of_mem _ m)) h.2
    exact ⟨by rw [h.1, e1], e2⟩
theorem name_inj {n l s u m k t v : Int} (hn : 0 ≤ n) (hl : 0 ≤ l) (hs : 0 ≤ s) (hu : 0 ≤ u) (hm : 0 ≤ m) (hk : 0 ≤ k) (ht : 0 ≤ t) (hv : 0 ≤ v) (h : decL n ++ ([dotV] ++ (decL l ++ ([dotV] ++ (decL s ++ ([dotV] ++ decL u))))) = decL m ++ ([dotV] ++ (decL k ++ ([dotV] ++ (decL t ++ ([dotV] ++ decL v)))))) : n = m ∧ l = k ∧ s = t ∧ u = v := by
  obtain ⟨e1, h1⟩ := split_eq (dec_dot hn) (dec_dot hm) h
  obtain ⟨e2, h2⟩ := split_eq (dec_dot hl) (dec_dot hk) h1
  obtain ⟨e3, h3⟩ := split_eq (dec_dot hs) (dec_dot ht) h2
  exact ⟨dec_inj hn hm e1, dec_inj hl hk e2, dec_inj hs ht e3, dec_inj hu hv h3⟩
theorem dec_typed (n : Int) : Typed byteK (decL n) := by
  intro e he
  obtain ⟨b, _, rfl⟩ := List.mem_map.1 he
  have := b.toNat_lt
  show conf [.int .u8] [.int .u8 (b.toNat : Int)] = true
  have k0 : ileb (kmin .u8) (b.toNat : Int) = true := (ileb_iff _ _).2 (by show (0 : Int) ≤ _; omega)
  have k1 : ileb (b.toNat : Int) (kmax .u8) = true := (ileb_iff _ _).2 (by show _ ≤ (255 : Int); omega)
  simp [conf, conf1, k0, k1, keq, kno]
theorem nd_le (u : Nat) (h : u < 10 ^ 19) : Lib.nDigits u ≤ 19 := by
  rcases Nat.eq_zero_or_pos u with z | z
  · subst z; rw [Lib.nDigits_small (by decide)]; decide
  · have key : ∀ k, k ≤ 19 → u < 10 ^ k → Lib.nDigits u ≤ k := by
      intro k
      induction k with
      | zero => intro _ h; omega
      | succ k ih =>
        intro hk h
        by_cases c : u < 10 ^ k
        · have := ih (by omega) c; omega
        · rw [Lib.nDigits_unique k u (by omega) h]; exact Nat.le_refl _
    exact key 19 (by omega) h
theorem dec_len {n : Int} (h0 : -9223372036854775808 ≤ n) (h1 : n ≤ 9223372036854775807) : (decL n).length ≤ 20 := by
  unfold decL
  rw [List.length_map]
  unfold Lib.itoa
  have b : (9223372036854775808 : Nat) < 10 ^ 19 := by decide
  split
  · rw [List.length_cons, Lib.decDigits_length]
    have := nd_le n.natAbs (by omega)
    omega
  · rw [Lib.decDigits_length]
    have := nd_le n.toNat (by omega)
    omega
noncomputable section
def shapeN (n l s : Int) : Bool := decide (1 ≤ n ∧ n ≤ 64 ∧ 1 ≤ l ∧ l ≤ 8 ∧ 1 ≤ s ∧ s ≤ 4)
/-- A ticket of a shape. -/
def tickN (n l s a b c u : Int) : Bool := decide (0 ≤ a ∧ a ≤ n - 1 ∧ 0 ≤ b ∧ b ≤ l - 1 ∧ 0 ≤ c ∧ c ≤ s - 1 ∧ 1 ≤ u ∧ u ≤ 1099511627776)
def cmpN (x y : Int) : Int := if x < y then -1 else if y < x then 1 else 0
def ordN (n l s u m k t v : Int) : Int := if cmpN l k ≠ 0 then cmpN l k else if cmpN n m ≠ 0 then cmpN n m else if cmpN s t ≠ 0 then cmpN s t else cmpN u v
def rightN (n l s a b c u : Int) : Int := if shapeN n l s then (if tickN n l s a b c u then 0 else 4) else 2
def fi : Nat → List AV → Int
  | 5, [.int _ n, .int _ l, .int _ s, .int _ a, .int _ b, .int _ c, .int _ u] => rightN n l s a b c u
  | 1, [.int _ x, .int _ y] => cmpN x y
  | 3, [.int _ n, .int _ l, .int _ s, .int _ u, .int _ m, .int _ k, .int _ t, .int _ v] => ordN n l s u m k t v
  | _, _ => 0
def fb : Nat → List AV → Bool
  | 2, [.int _ n, .int _ l, .int _ s] => shapeN n l s
  | 6, [.int _ n, .int _ l, .int _ s, .int _ a, .int _ b, .int _ c, .int _ u] => tickN n l s a b c u
  | _, _ => false
def fl : Nat → List AV → LV
  | 1, [.int _ n] => decL n
  | _, _ => []
def powV : List Value := Lib.pow10Tab.map fun z => Value.int .u64 z
def Φ : Fns := ⟨fi, fb, fl, [(0, powV)]⟩
def shapeF (n l s : Nat) : BE := .fn 2 (.int .i64 (xv n) (.int .i64 (xv l) (.int .i64 (xv s) .nil)))
def tickF : BE := .fn 6 (.int .i64 (xv 1) (.int .i64 (xv 2) (.int .i64 (xv 3) (.int .i64 (xv 4) (.int .i64 (xv 5) (.int .i64 (xv 6) (.int .i64 (xv 7) .nil)))))))
def pShape : SV := .agg [iv 1, iv 2, iv 3]
def tick (n : Nat) : SV := .agg [iv n, iv (n + 1), iv (n + 2), iv (n + 3)]
def decE (n : Nat) : LE := .fn 1 (.int .i64 (xv n) .nil)
def dotE : LE := .one (.int .u8 (.lit 46) .nil)
def nameE : LE := .cat (decE 4) (.cat dotE (.cat (decE 5) (.cat dotE (.cat (decE 6) (.cat dotE (decE 7))))))
def cWorks : Ctr := ⟨15, [], [], [], .bool (.lit true), [], 0, []⟩
def cRightS : Ctr := ⟨29, [pShape], [], [], .bool (shapeF 1 2 3), [], 0, []⟩
def bnd : List BE := [.le (.lit 1) (xv 1), .le (xv 1) (.lit 64), .le (.lit 1) (xv 2), .le (xv 2) (.lit 8), .le (.lit 1) (xv 3), .le (xv 3) (.lit 4)]
def cChk1 : Ctr := ⟨14, [pShape], [], [shapeF 1 2 3], .int .i64 (.lit 0), [], 0, bnd⟩
def cChk2 : Ctr := ⟨14, [pShape], [], [.not (shapeF 1 2 3)], .int .i64 (.lit 2), [], 0, []⟩
def cFmt : Ctr := ⟨48, [iv 1, .int .i64 (.lit 10)], [], [.le (.lit (-9223372036854775808)) (xv 1), .le (xv 1) (.lit 9223372036854775807)], .lstr (decE 1), [], 0, [.le (.len (decE 1)) (.lit 20)]⟩
def cHas : Ctr := ⟨32, [pShape, tick 4], [], [shapeF 1 2 3], .bool tickF, [], 0, []⟩
def rg (n : Nat) : List BE := [.le (.lit (-9223372036854775808)) (xv n), .le (xv n) (.lit 9223372036854775807)]
def post5 : List BE := [.le (.len nameE) (.lit 100), .le (.lit 1) (.len (decE 4)), .le (.lit 1) (.len (decE 5)), .le (.lit 1) (.len (decE 6)), .le (.lit 1) (.len (decE 7))]
def nn : List BE := [.le (.len (decE 4)) (.lit 20), .le (.len (decE 5)) (.lit 20), .le (.len (decE 6)) (.lit 20), .le (.len (decE 7)) (.lit 20), .le (.lit 0) (xv 4), .le (.lit 0) (xv 5), .le (.lit 0) (xv 6), .le (.lit 0) (xv 7)]
def ge1 : List BE := [.le (.lit 1) (.len (decE 4)), .le (.lit 1) (.len (decE 5)), .le (.lit 1) (.len (decE 6)), .le (.lit 1) (.len (decE 7))]
def cName : Ctr := ⟨31, [pShape, tick 4], [], rg 4 ++ rg 5 ++ rg 6 ++ rg 7, .lstr nameE, [], 0, post5⟩
def cText1 : Ctr := ⟨18, [pShape, tick 4], [], [shapeF 1 2 3, tickF], .tup [.lstr nameE, .int .i64 (.lit 0)], [], 0, post5 ++ nn⟩
def cText2 : Ctr := ⟨18, [pShape, tick 4], [], [.not (shapeF 1 2 3)], .tup [.lstr .nil, .int .i64 (.lit 2)], [], 0, []⟩
def cText3 : Ctr := ⟨18, [pShape, tick 4], [], [shapeF 1 2 3, .not tickF], .tup [.lstr .nil, .int .i64 (.lit 4)], [], 0, []⟩
def cPI : Ctr := ⟨64, [.lstr (decE 4), .int .i64 (.lit 10), .int .i64 (.lit 64)], [], [.le (.lit 0) (xv 4), .le (xv 4) (.lit 9223372036854775807)], .tup [iv 4, .const .nilIface], [], 0, []⟩
def cIxS : Ctr := ⟨73, [.lstr (.cat (decE 4) (.cat dotE (.var 5))), .lstr dotE], [], [.le (.lit 0) (xv 4), .le (xv 4) (.lit 9223372036854775807)], .int .i64 (.len (decE 4)), [], 0, [.le (.lit 1) (.len (decE 4)), .le (.len (decE 4)) (.lit 20)]⟩
def cIxL : Ctr := ⟨73, [.lstr (decE 4), .lstr dotE], [], [.le (.lit 0) (xv 4)], .int .i64 (.lit (-1)), [], 0, []⟩
def rightE : IE := .fn .i64 5 (.int .i64 (xv 1) (.int .i64 (xv 2) (.int .i64 (xv 3) (.int .i64 (xv 4) (.int .i64 (xv 5) (.int .i64 (xv 6) (.int .i64 (xv 7) .nil)))))))
def cRRight : Ctr := ⟨17, [pShape, tick 4], [], [], .int .i64 rightE, [], 0, []⟩
def cSRight : Ctr := ⟨19, [pShape, tick 4], [], [], .int .i64 rightE, [], 0, []⟩
def cRText : Ctr := ⟨21, [tick 4], [], rg 4 ++ rg 5 ++ rg 6 ++ rg 7, .lstr nameE, [], 0, []⟩
def cParse : Ctr := ⟨20, [pShape, .lstr nameE], [], [shapeF 1 2 3, tickF] ++ post5 ++ nn, .tup [tick 4, .int .i64 (.lit 0)], [], 0, []⟩
def cTickets : Ctr := ⟨4, [pShape, tick 4], [], [], .bool (.lit true), [], 0, []⟩
def cmpE (a b : Nat) : IE := .fn .i64 1 (.int .i64 (xv a) (.int .i64 (xv b) .nil))
def cCmp : Ctr := ⟨40, [iv 1, iv 2], [], [], .int .i64 (cmpE 1 2), [], 0, []⟩
def cCmp64 : Ctr := ⟨41, [iv 1, iv 2], [], [], .int .i64 (cmpE 1 2), [], 0, []⟩
def ordE : IE := .fn .i64 3 (.int .i64 (xv 1) (.int .i64 (xv 2) (.int .i64 (xv 3) (.int .i64 (xv 4) (.int .i64 (xv 5) (.int .i64 (xv 6) (.int .i64 (xv 7) (.int .i64 (xv 8) .nil))))))))
def cOrder : Ctr := ⟨24, [tick 1, tick 5], [], [], .int .i64 ordE, [], 0, [.le (.lit (-1)) ordE, .le ordE (.lit 1)]⟩
def cHolds : Ctr := ⟨8, [pShape, .agg [iv 4, iv 5, iv 6, iv 7, iv 8, iv 9, iv 10, iv 11, iv 12, iv 13, iv 14, iv 15]], [], [], .bool (.lit true), [], 0, []⟩
end
theorem pb2 (k1 k2 k3 : IntKind) (n l s : Int) : Φ.b 2 [.int k1 n, .int k2 l, .int k3 s] = shapeN n l s := rfl
theorem pb6 (k1 k2 k3 k4 k5 k6 k7 : IntKind) (n l s a b c u : Int) : Φ.b 6 [.int k1 n, .int k2 l, .int k3 s, .int k4 a, .int k5 b, .int k6 c, .int k7 u] = tickN n l s a b c u := rfl
theorem pi1 (k1 k2 : IntKind) (x y : Int) : Φ.i 1 [.int k1 x, .int k2 y] = cmpN x y := rfl
theorem pi3 (k1 k2 k3 k4 k5 k6 k7 k8 : IntKind) (n l s u m k t v : Int) : Φ.i 3 [.int k1 n, .int k2 l, .int k3 s, .int k4 u, .int k5 m, .int k6 k, .int k7 t, .int k8 v] = ordN n l s u m k t v := rfl
theorem pl1 (k : IntKind) (n : Int) : Φ.l 1 [.int k n] = decL n := rfl
theorem shapeN_iff {n l s : Int} : (shapeN n l s = true) = (1 ≤ n ∧ n ≤ 64 ∧ 1 ≤ l ∧ l ≤ 8 ∧ 1 ≤ s ∧ s ≤ 4) := by unfold shapeN; exact propext ⟨of_decide_eq_true, fun h => decide_eq_true h⟩
theorem tickN_iff {n l s a b c u : Int} : (tickN n l s a b c u = true) = (0 ≤ a ∧ a ≤ n - 1 ∧ 0 ≤ b ∧ b ≤ l - 1 ∧ 0 ≤ c ∧ c ≤ s - 1 ∧ 1 ≤ u ∧ u ≤ 1099511627776) := by unfold tickN; exact propext ⟨of_decide_eq_true, fun h => decide_eq_true h⟩
theorem cmp_rng (x y : Int) : -1 ≤ cmpN x y ∧ cmpN x y ≤ 1 := by
  unfold cmpN
  split
  · omega
  · split <;> omega
theorem ord_rng (n l s u m k t v : Int) : -1 ≤ ordN n l s u m k t v ∧ ordN n l s u m k t v ≤ 1 := by
  have h1 := cmp_rng l k
  have h2 := cmp_rng n m
  have h3 := cmp_rng s t
  have h4 := cmp_rng u v
  unfold ordN
  repeat' split
  all_goals omega
theorem cmp_cases (x y : Int) : (x < y ∧ cmpN x y = -1) ∨ (y < x ∧ cmpN x y = 1) ∨ (x = y ∧ cmpN x y = 0) := by
  unfold cmpN
  split
  · omega
  · split <;> omega
theorem clamp1 {x : Int} (h : -1 ≤ x ∧ x ≤ 1) : clampK .i64 x = x := by
  unfold clampK
  have a : kmin .i64 = -9223372036854775808 := rfl
  have b : kmax .i64 = 9223372036854775807 := rfl
  rw [if_pos (by omega)]
theorem clampC (x y : Int) : clampK .i64 (cmpN x y) = cmpN x y := clamp1 (cmp_rng x y)
theorem clampO (n l s u m k t v : Int) : clampK .i64 (ordN n l s u m k t v) = ordN n l s u m k t v := clamp1 (ord_rng n l s u m k t v)
theorem cmp_anti (x y : Int) : cmpN y x = - cmpN x y := by
  unfold cmpN
  repeat' split
  all_goals omega
theorem ord_anti (n l s u m k t v : Int) : ordN m k t v n l s u = - ordN n l s u m k t v := by
  unfold ordN
  rw [cmp_anti l k, cmp_anti n m, cmp_anti s t, cmp_anti u v]
  repeat' split
  all_goals omega
theorem post_chk1 : PostOk Φ cChk1 := by
  intro ρ hF hp
  have h1 : (shapeF 1 2 3).den ρ = true := hp _ (List.mem_singleton.2 rfl)
  have h2 : shapeN (ρ.i .i64 1) (ρ.i .i64 2) (ρ.i .i64 3) = true := by
    have e : (shapeF 1 2 3).den ρ = ρ.z.F.b 2 [.int .i64 (ρ.i .i64 1), .int .i64 (ρ.i .i64 2), .int .i64 (ρ.i .i64 3)] := rfl
    rw [e, hF] at h1
    exact h1
  have h3 : 1 ≤ ρ.i .i64 1 ∧ ρ.i .i64 1 ≤ 64 ∧ 1 ≤ ρ.i .i64 2 ∧ ρ.i .i64 2 ≤ 8 ∧ 1 ≤ ρ.i .i64 3 ∧ ρ.i .i64 3 ≤ 4 := of_decide_eq_true h2
  show Holds ρ [_, _, _, _, _, _]
  simp only [h_nil, h_cons, d_le, xv, IE.den, and_true]
  omega
theorem wr {x : Int} (h0 : -1000000 ≤ x) (h1 : x ≤ 1000000) : IntKind.i64.wrap x = x := wrap_in .i64 _ (by show (-9223372036854775808 : Int) ≤ _; omega) (by show _ ≤ (9223372036854775807 : Int); omega)
theorem post_order : PostOk Φ cOrder := by
  intro ρ hF hp
  show Holds ρ [_, _]
  simp only [h_nil, h_cons, d_le, ordE, IE.den, AL.den, xv, and_true]
  rw [hF]
  simp only [pi3, clampO]
  exact ord_rng _ _ _ _ _ _ _ _
theorem dec_pos (n : Int) : 1 ≤ (decL n).length := by
  unfold decL
  rw [List.length_map]
  unfold Lib.itoa
  split
  · rw [List.length_cons]; omega
  · rw [Lib.decDigits_length]; exact Lib.nDigits_pos _
theorem name_len {ρ : Rho} (hF : ρ.z.F = Φ) (h4 : -9223372036854775808 ≤ ρ.i .i64 4 ∧ ρ.i .i64 4 ≤ 9223372036854775807) (h5 : -9223372036854775808 ≤ ρ.i .i64 5 ∧ ρ.i .i64 5 ≤ 9223372036854775807) (h6 : -9223372036854775808 ≤ ρ.i .i64 6 ∧ ρ.i .i64 6 ≤ 9223372036854775807) (h7 : -9223372036854775808 ≤ ρ.i .i64 7 ∧ ρ.i .i64 7 ≤ 9223372036854775807) : Holds ρ post5 := by
  have e : nameE.den ρ = decL (ρ.i .i64 4) ++ ([dotV] ++ (decL (ρ.i .i64 5) ++ ([dotV] ++ (decL (ρ.i .i64 6) ++ ([dotV] ++ decL (ρ.i .i64 7)))))) := by
    simp only [nameE, decE, dotE, LE.den, AL.den, IE.den, xv, hF, pl1]
    rfl
  have d4 := dec_len h4.1 h4.2
  have d5 := dec_len h5.1 h5.2
  have d6 := dec_len h6.1 h6.2
  have d7 := dec_len h7.1 h7.2
  have l : ((nameE.den ρ).length : Int) ≤ 100 := by
    rw [e]
    simp only [List.length_append, List.length_cons, List.length_nil]
    omega
  have g := fun n => dec_pos (ρ.i .i64 n)
  have g4 := g 4
  have g5 := g 5
  have g6 := g 6
  have g7 := g 7
  have l' : (nameE.den ρ).length ≤ 100 := by omega
  show Holds ρ [_, _, _, _, _]
  simp only [h_nil, h_cons, d_le, IE.den, lenV, and_true]
  refine ⟨l, ?_, ?_, ?_, ?_⟩ <;> simp only [decE, LE.den, AL.den, IE.den, xv, hF, pl1] <;> omega
theorem post_name : PostOk Φ cName := by
  intro ρ hF hp
  have hp : Holds ρ [_, _, _, _, _, _, _, _] := hp
  simp only [h_nil, h_cons, d_le, xv, IE.den, and_true] at hp
  obtain ⟨a, b, c, d, e, f, g, h⟩ := hp
  exact name_len hF ⟨a, b⟩ ⟨c, d⟩ ⟨e, f⟩ ⟨g, h⟩
theorem post_text1 : PostOk Φ cText1 := by
  intro ρ hF hp
  have hp : Holds ρ [_, _] := hp
  simp only [h_nil, h_cons, shapeF, tickF, d_fn, AL.den, IE.den, xv, hF, pb2, pb6, shapeN_iff, tickN_iff, and_true] at hp
  have h1 : Holds ρ post5 := name_len hF (by omega) (by omega) (by omega) (by omega)
  have h2 : Holds ρ nn := by
    have d4 := dec_len (n := ρ.i .i64 4) (by omega) (by omega)
    have d5 := dec_len (n := ρ.i .i64 5) (by omega) (by omega)
    have d6 := dec_len (n := ρ.i .i64 6) (by omega) (by omega)
    have d7 := dec_len (n := ρ.i .i64 7) (by omega) (by omega)
    show Holds ρ [_, _, _, _, _, _, _, _]
    simp only [h_nil, h_cons, d_le, IE.den, decE, LE.den, AL.den, lenV, hF, pl1, xv, and_true]
    omega
  intro p hm
  rcases List.mem_append.1 (show p ∈ post5 ++ nn from hm) with hm | hm
  · exact h1 p hm
  · exact h2 p hm
theorem ord_neg (n l s u m k t v : Int) : ordN n l s u m k t v < 0 ↔ (l < k ∨ (l = k ∧ (n < m ∨ (n = m ∧ (s < t ∨ (s = t ∧ u < v)))))) := by
  have c1 := cmp_cases l k
  have c2 := cmp_cases n m
  have c3 := cmp_cases s t
  have c4 := cmp_cases u v
  unfold ordN
  repeat' split
  all_goals omega
theorem ord_zero (n l s u m k t v : Int) : ordN n l s u m k t v = 0 ↔ (n = m ∧ l = k ∧ s = t ∧ u = v) := by
  have c1 := cmp_cases l k
  have c2 := cmp_cases n m
  have c3 := cmp_cases s t
  have c4 := cmp_cases u v
  unfold ordN
  repeat' split
  all_goals omega
theorem ord_trans (n l s u m k t v a b c d : Int) : (ordN n l s u m k t v < 0 → ordN m k t v a b c d < 0 → ordN n l s u a b c d < 0) ∧ (0 < ordN n l s u m k t v → 0 < ordN m k t v a b c d → 0 < ordN n l s u a b c d) := by
  have h1 := ord_neg n l s u m k t v
  have h2 := ord_neg m k t v a b c d
  have h3 := ord_neg n l s u a b c d
  have g1 := ord_neg m k t v n l s u
  have g2 := ord_neg a b c d m k t v
  have g3 := ord_neg a b c d n l s u
  have a1 := ord_anti n l s u m k t v
  have a2 := ord_anti m k t v a b c d
  have a3 := ord_anti n l s u a b c d
  refine ⟨fun x y => ?_, fun x y => ?_⟩
  · have x' := h1.1 x
    have y' := h2.1 y
    exact h3.2 (by omega)
  · have x' := g1.1 (by omega)
    have y' := g2.1 (by omega)
    have := g3.2 (by omega)
    omega
theorem name_of {n l s u m k t v : Int} (h : n = m ∧ l = k ∧ s = t ∧ u = v) : decL n ++ ([dotV] ++ (decL l ++ ([dotV] ++ (decL s ++ ([dotV] ++ decL u))))) = decL m ++ ([dotV] ++ (decL k ++ ([dotV] ++ (decL t ++ ([dotV] ++ decL v))))) := by
  obtain ⟨rfl, rfl, rfl, rfl⟩ := h
  rfl
theorem dot_eq : List.map AV.cell [AV.int .u8 46] = dotV := rfl
theorem pi5 (k1 k2 k3 k4 k5 k6 k7 : IntKind) (n l s a b c u : Int) : Φ.i 5 [.int k1 n, .int k2 l, .int k3 s, .int k4 a, .int k5 b, .int k6 c, .int k7 u] = rightN n l s a b c u := rfl
theorem clampR (n l s a b c u : Int) : clampK .i64 (rightN n l s a b c u) = rightN n l s a b c u := by
  have h : 0 ≤ rightN n l s a b c u ∧ rightN n l s a b c u ≤ 4 := by
    unfold rightN
    split
    · split <;> omega
    · omega
  unfold clampK
  have a : kmin .i64 = -9223372036854775808 := rfl
  have b : kmax .i64 = 9223372036854775807 := rfl
  rw [if_pos (by omega)]
theorem dec_dig (u : Nat) : ∀ b ∈ Lib.decDigits u, 48 ≤ b.toNat ∧ b.toNat ≤ 57 := by
  induction u using Nat.strongRecOn with
  | _ u ih =>
    rw [Lib.decDigits]
    split
    · rename_i h
      intro b hb
      rw [List.mem_singleton.1 hb, dig h]
      omega
    · rename_i h
      intro b hb
      rcases List.mem_append.1 hb with hb | hb
      · exact ih (u / 10) (by omega) b hb
      · rw [List.mem_singleton.1 hb, dig (by omega)]
        omega
theorem fold_ge : ∀ (l : List UInt8) (acc : Nat), acc ≤ l.foldl (fun a b => 10 * a + (b.toNat - 48)) acc
  | [], acc => Nat.le_refl _
  | b :: l, acc => by
    have := fold_ge l (10 * acc + (b.toNat - 48))
    rw [List.foldl_cons]; omega
theorem parse_dig {M : Nat} (hM : M ≤ 18446744073709551615) : ∀ (l : List UInt8) (acc : Nat), (∀ b ∈ l, 48 ≤ b.toNat ∧ b.toNat ≤ 57) → l.foldl (fun a b => 10 * a + (b.toNat - 48)) acc ≤ M → Lib.parseUintM M acc l = .ok (l.foldl (fun a b => 10 * a + (b.toNat - 48)) acc)
  | [], acc, _, _ => rfl
  | b :: l, acc, hd, hm => by
    have h1 := hd b (List.mem_cons_self ..)
    rw [List.foldl_cons] at hm ⊢
    have h2 := fold_ge l (10 * acc + (b.toNat - 48))
    rw [Lib.parseUintM, if_pos h1, if_neg (by omega), if_neg (by omega), show acc * 10 + (b.toNat - 48) = 10 * acc + (b.toNat - 48) by omega]
    exact parse_dig hM l _ (fun x hx => hd x (List.mem_cons_of_mem _ hx)) hm
theorem parse_dec {u : Nat} (h : u < 9223372036854775808) : Lib.parseIntB 64 (Lib.decDigits u) = .ok (u : Int) := by
  have hv := val_dec u
  have hg := dec_dig u
  have hl := Lib.decDigits_length u
  have hp := Lib.nDigits_pos u
  generalize hd : Lib.decDigits u = d at *
  match d with
  | [] => simp at hl <;> omega
  | c :: r =>
    have hc := hg c (List.mem_cons_self ..)
    rw [Lib.parseIntB_plain 64 c r (by omega) (by omega)]
    have e : Lib.parseUintB 64 (c :: r) = .ok u := by
      unfold Lib.parseUintB
      rw [if_neg (by simp)]
      have hb : (2 ^ 64 - 1 : Nat) = 18446744073709551615 := by decide
      rw [hb]
      unfold valD at hv
      rw [parse_dig (Nat.le_refl _) (c :: r) 0 hg (by omega), hv]
    rw [e]
    have hb : (2 ^ (64 - 1) : Nat) = 9223372036854775808 := by decide
    simp only [Lib.signlessC, hb]
    rw [if_neg (by omega)]
theorem ix_dec (d r : List UInt8) (h : ∀ b ∈ d, b ≠ 46) : Lib.indexByte (d ++ 46 :: r) 46 = (d.length : Int) := by
  induction d with
  | nil => rfl
  | cons b d ih =>
    have i1 := ih fun x hx => h x (List.mem_cons_of_mem _ hx)
    have hb := h b (List.mem_cons_self ..)
    show (if b == 46 then (0 : Int) else if Lib.indexByte (d ++ 46 :: r) 46 == -1 then -1 else Lib.indexByte (d ++ 46 :: r) 46 + 1) = _
    rw [if_neg (by simpa using hb), i1, if_neg (by simp <;> omega)]
    simp
theorem ix_none (d : List UInt8) (h : ∀ b ∈ d, b ≠ 46) : Lib.indexByte d 46 = -1 := by
  induction d with
  | nil => rfl
  | cons b d ih =>
    have i1 := ih fun x hx => h x (List.mem_cons_of_mem _ hx)
    have hb := h b (List.mem_cons_self ..)
    show (if b == 46 then (0 : Int) else if Lib.indexByte d 46 == -1 then -1 else Lib.indexByte d 46 + 1) = _
    rw [if_neg (by simpa using hb), i1]
    rfl
theorem odd_ok : OddOk Φ := fun n a h => by
  show Typed byteK (fl n a)
  unfold fl; split
  · exact dec_typed _
  · exact Typed.nil _
end Go.Proofs.YtdfgidogiacmnaaDoor.sih
