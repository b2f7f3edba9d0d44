/- Layer site: four texts that are joined, and where a point stands. No condition. -/
import Derived.Test.YtdfgidogiacmnaaDoorSw
import Derived.Test.YtdfgidogiacmnaaDoorVa
set_option linter.unusedVariables false
set_option linter.unusedSimpArgs false
set_option linter.deprecated false
namespace Go.Proofs.YtdfgidogiacmnaaDoor.sih
open Go Go.Proofs.YtdfgidogiacmnaaDoor.Sx
noncomputable section
def iv (n : Nat) : SV := .int .i64 (.var .i64 n)
def xv (n : Nat) : IE := .var .i64 n
def ln (r : Nat) : IE := .len (.rom r)
def sl0 (r : Nat) : SV := .rom r (.lit 0) (.len (.rom r)) none
def rT : Roms := [(0, (1, [.str]))]
def celT (j : Int) : LE := .str (.rom 0) (.lit j) 0
def shortE (l : LE) : BE := .le (.len l) (.lit 100)
def joinE : LE := .cat (celT 0) (.cat (.var 1) (.cat (celT 1) (.cat (.var 1) (.cat (celT 2) (.cat (.var 1) (celT 3))))))
def cJoin : Ctr := ⟨43, [sl0 0, .lstr (.var 1)], rT, [.eq (ln 0) (.lit 4), shortE (celT 0), shortE (celT 1), shortE (celT 2), shortE (celT 3), shortE (.var 1)], .lstr joinE, [], 0, []⟩
def byteE (j : Int) : IE := .cel .u8 (.var 1) (.lit j) 0
def cE : IE := .var .u8 2
def pIx : List SV := [.lstr (.var 1), .int .u8 cE]
def cIx1 : Ctr := ⟨95, pIx, [], [.eq cE (.lit 46), .le (.lit 2) (.len (.var 1)), .not (.eq (byteE 0) (.lit 46)), .eq (byteE 1) (.lit 46)], .int .i64 (.lit 1), [], 0, []⟩
def cIxA : Ctr := ⟨95, pIx, [], [.eq cE (.lit 46), .eq (.len (.var 1)) (.lit 1), .not (.eq (byteE 0) (.lit 46))], .int .i64 (.lit (-1)), [], 0, []⟩
def cIxB : Ctr := ⟨95, pIx, [], [.eq cE (.lit 46), .eq (.len (.var 1)) (.lit 2), .not (.eq (byteE 0) (.lit 46)), .not (.eq (byteE 1) (.lit 46))], .int .i64 (.lit (-1)), [], 0, []⟩
end
theorem heap0 {ρ : Rho} {w w' : World} (h : w.grownBy w' none) : HeapR ρ w [] w' := ⟨h, fun n o hh => by simp [lk_nil] at hh, fun n o hh => by simp [lk_nil] at hh, fun n m o p hh => by simp [lk_nil] at hh⟩
theorem below_grown {w w' : World} (h : RowKit.Below w.heap.size w w') : w.grownBy w' none := ⟨h.os, h.tape, h.output, h.size, fun k hk _ => h.block k hk⟩
theorem names0 {c : Ctr} (h1 : c.heap = []) (h2 : c.cnt = 0) (h3 : c.res.names = []) (h4 : SV.namesL c.pat = []) : HNames c.cnt c.heap ∧ NamesV c.cnt c.res ∧ SV.namesL c.pat = [] ∧ ∀ p ∈ c.heap, p.1 < c.cnt := by
  rw [h1]
  exact ⟨(fun n o hl => by rw [lk_nil] at hl; cases hl), (fun n hn => by rw [h3] at hn; cases hn), h4, (fun p hp => by cases hp)⟩
theorem text_row {l : LV} (h : Typed [.str] l) : ∃ xs : List ByteArray, l = xs.map fun s => [Value.string s] := by
  induction l with
  | nil => exact ⟨[], rfl⟩
  | cons e l ih =>
    obtain ⟨xs, hx⟩ := ih fun e' he => h e' (List.mem_cons_of_mem _ he)
    have he := h e (List.mem_cons_self ..)
    match e, he with
    | [v], he =>
      simp only [conf] at he
      obtain ⟨h1, _⟩ := ifb he
      exact ⟨byteL (strV v) :: xs, by rw [List.map_cons, ← conf1_str h1, hx]⟩
    | [], he => simp [conf] at he
    | _ :: _ :: _, he => simp [conf] at he
theorem byteL_data (l : LV) : (byteL l).data.toList = l.map fun c => UInt8.ofNat (intV (c.headD (.bool false))).toNat := by
  unfold byteL bytesOf
  simp
theorem strV_data (s : ByteArray) : (strV (.string s)).map (fun c => UInt8.ofNat (intV (c.headD (.bool false))).toNat) = s.data.toList := by
  rw [← byteL_data, byteL_strV]
theorem join4 (F : Fns) : Sx.Told F cJoin := by
  refine ⟨⟨⟨by kernel_rfl, by kernel_rfl, by kernel_rfl, by kernel_rfl⟩, names0 rfl rfl (by kernel_rfl) (by kernel_rfl), ?_⟩, post_nil rfl⟩
  intro ρ w hg hr hp
  have hp : Holds ρ [_, _, _, _, _, _] := hp
  simp only [h_nil, h_cons, d_le, d_eq, ln, shortE, celT, IE.den, LE.den, lenV, and_true] at hp
  obtain ⟨hl, s0, s1, s2, s3, s4⟩ := hp
  obtain ⟨_, hre, ht, ha, hc, hcell⟩ := hr.2 0 1 [.str] rfl
  obtain ⟨xs, hx⟩ := text_row ht
  have lx : xs.length = 4 := by rw [hx, List.length_map] at hl; omega
  match xs, lx with
  | [x0, x1, x2, x3], _ =>
    have c0 : celV (ρ.z.rl 0) 0 0 = .string x0 := by rw [hx]; rfl
    have c1 : celV (ρ.z.rl 0) 1 0 = .string x1 := by rw [hx]; rfl
    have c2 : celV (ρ.z.rl 0) 2 0 = .string x2 := by rw [hx]; rfl
    have c3 : celV (ρ.z.rl 0) 3 0 = .string x3 := by rw [hx]; rfl
    have zl : ∀ s : ByteArray, (strV (.string s)).length = s.data.toList.length := fun s => by rw [← strV_data s, List.length_map]
    rw [c0, zl] at s0
    rw [c1, zl] at s1
    rw [c2, zl] at s2
    rw [c3, zl] at s3
    have l4 : (ρ.z.rl 0).length = 4 := by rw [hx]; rfl
    obtain ⟨hra, hrb⟩ := ha (by omega)
    have zs : (byteL (ρ.l 1)).data.toList.length = (ρ.l 1).length := by rw [byteL_data, List.length_map]
    have jl : Lib.join ([x0, x1, x2, x3].map (·.data.toList)) (byteL (ρ.l 1)).data.toList = x0.data.toList ++ ((byteL (ρ.l 1)).data.toList ++ (x1.data.toList ++ ((byteL (ρ.l 1)).data.toList ++ (x2.data.toList ++ ((byteL (ρ.l 1)).data.toList ++ x3.data.toList))))) := by
      simp [Lib.join, List.intercalate]
    have key := Tryd.strings_Join (ρ.z.rb 0) (ρ.z.ro 0) (ρ.z.rc 0) [x0, x1, x2, x3] (byteL (ρ.l 1)) w (fun j x hj => by
      have hj2 : (ρ.z.rl 0)[j]? = some [.string x] := by rw [hx, List.getElem?_map, hj]; rfl
      have := hcell j 0 _ _ hj2 rfl
      rw [Nat.mul_one, Nat.add_zero] at this
      exact this) hrb (by show 4 ≤ _; omega) (by show 4 ≤ _; omega) (by rw [jl]; simp only [List.length_append]; omega)
    have ea : (SV.denL ρ cJoin.pat).toArray = #[.slice (some ⟨ρ.z.rb 0, ρ.z.ro 0, none⟩) [x0, x1, x2, x3].length (ρ.z.rc 0), .string (byteL (ρ.l 1))] := by
      have e1 : SV.denL ρ cJoin.pat = [SV.den ρ (sl0 0), .string (byteL (ρ.l 1))] := rfl
      rw [e1]
      have e2 : SV.den ρ (sl0 0) = .slice ((ρ.z.ra 0).map fun a => a.add (0 * ρ.z.re 0)) ((ρ.z.rl 0).length : Int).toNat (ρ.z.rc 0 - 0) := rfl
      rw [e2, hra, l4, Nat.zero_mul]; rfl
    rw [ea]
    refine key.mono ?_
    rintro e w' ⟨he, hb⟩
    refine ⟨ρ, Agr.refl _ _ _, ?_, heap0 (below_grown hb)⟩
    rw [he, jl]
    have er : SV.den ρ cJoin.res = .string (byteL (joinE.den ρ)) := rfl
    have ej : joinE.den ρ = strV (.string x0) ++ (ρ.l 1 ++ (strV (.string x1) ++ (ρ.l 1 ++ (strV (.string x2) ++ (ρ.l 1 ++ strV (.string x3)))))) := by
      simp only [joinE, celT, LE.den, IE.den, c0, c1, c2, c3]
    have eb : (byteL (joinE.den ρ)).data.toList = x0.data.toList ++ ((byteL (ρ.l 1)).data.toList ++ (x1.data.toList ++ ((byteL (ρ.l 1)).data.toList ++ (x2.data.toList ++ ((byteL (ρ.l 1)).data.toList ++ x3.data.toList))))) := by
      rw [byteL_data, ej, byteL_data (ρ.l 1)]
      simp only [List.map_append, strV_data]
    rw [er, ← eb]
theorem ix_bytes {ρ : Rho} (h : ρ.Ok) : ∃ d : List UInt8, (byteL (ρ.l 1)).data.toList = d ∧ ρ.l 1 = d.map fun b => [Value.int .u8 b.toNat] := by
  refine ⟨(byteL (ρ.l 1)).data.toList, rfl, ?_⟩
  have := strV_byteL (h.lodd 1 rfl)
  rw [← this]
  show (byteL (ρ.l 1)).data.toList.map _ = ((byteL (strV (.string (byteL (ρ.l 1))))).data.toList).map _
  rw [byteL_strV]
theorem clamp8 (b : UInt8) : clampK .u8 (b.toNat : Int) = (b.toNat : Int) := by
  unfold clampK
  have := b.toNat_lt
  rw [if_pos ⟨by show (0 : Int) ≤ _; omega, by show _ ≤ (255 : Int); omega⟩]
theorem byte_is {b : UInt8} : ((b.toNat : Int) = 46) = ((b == 46) = true) := by
  rw [beq_iff_eq]
  refine propext ⟨fun h => ?_, fun h => by subst h; rfl⟩
  apply UInt8.toNat_inj.1
  show b.toNat = 46
  omega
theorem ix_told (F : Fns) {c : Ctr} (hf : c.f = 95) (hpat : c.pat = pIx) (hroms : c.roms = []) (hh : c.heap = []) (hc : c.cnt = 0) (hpost : c.post = []) (k : Int) (hres : c.res = .int .i64 (.lit k)) (hfree : freeL c.pre = true)
    (h : ∀ ρ : Rho, ρ.Ok → Holds ρ c.pre → ρ.i .u8 2 = 46 ∧ Lib.indexByte (byteL (ρ.l 1)).data.toList 46 = k) : Sx.Told F c := by
  refine ⟨⟨⟨by rw [hres]; rfl, by rw [hh]; rfl, by rw [hpost]; rfl, hfree⟩, names0 hh hc (by rw [hres]; rfl) (by rw [hpat]; rfl), ?_⟩, post_nil hpost⟩
  intro ρ w hg hr hp
  obtain ⟨h1, h2⟩ := h ρ hg.ok hp
  have ea : (SV.denL ρ c.pat).toArray = #[.string (byteL (ρ.l 1)), .int .u8 46] := by
    rw [hpat]
    have e1 : SV.denL ρ pIx = [.string (byteL (ρ.l 1)), .int .u8 (ρ.i .u8 2)] := rfl
    rw [e1, h1]
  rw [ea, hf, hh, hres]
  refine (Tryd.stringslite_IndexByte (byteL (ρ.l 1)) 46 w).mono ?_
  rintro e w' ⟨he, hw⟩
  subst hw
  refine ⟨ρ, Agr.refl _ _ _, ?_, heap0 ⟨rfl, rfl, rfl, Nat.le_refl _, fun _ _ _ => rfl⟩⟩
  rw [he]
  have : Lib.indexByte (byteL (ρ.l 1)).data.toList (46 : Int).toNat.toUInt8 = k := h2
  rw [this]; rfl
theorem tix1 (F : Fns) : Sx.Told F cIx1 := by
  refine ix_told F rfl rfl rfl rfl rfl rfl 1 rfl (by kernel_rfl) fun ρ ok hp => ?_
  have hp : Holds ρ [_, _, _, _] := hp
  obtain ⟨d, hd, hl⟩ := ix_bytes ok
  simp only [h_nil, h_cons, d_le, d_eq, d_not, cE, byteE, IE.den, LE.den, lenV, hl, and_true] at hp
  obtain ⟨h1, h2, h3, h4⟩ := hp
  refine ⟨h1, ?_⟩
  rw [hd]
  match d with
  | [] => simp at h2 <;> omega
  | [b] => simp at h2 <;> omega
  | b0 :: b1 :: r =>
    have e0 : clampK .u8 (intV (celV ((b0 :: b1 :: r).map fun b => [Value.int .u8 b.toNat]) 0 0)) = (b0.toNat : Int) := clamp8 b0
    have e1 : clampK .u8 (intV (celV ((b0 :: b1 :: r).map fun b => [Value.int .u8 b.toNat]) 1 0)) = (b1.toNat : Int) := clamp8 b1
    rw [e0, byte_is] at h3
    rw [e1, byte_is] at h4
    have i1 : Lib.indexByte (b1 :: r) 46 = 0 := by
      show (if b1 == 46 then (0 : Int) else _) = 0
      rw [if_pos h4]
    show (if b0 == 46 then (0 : Int) else if Lib.indexByte (b1 :: r) 46 == -1 then -1 else Lib.indexByte (b1 :: r) 46 + 1) = 1
    rw [if_neg h3]
    simp only [i1]
    rfl
theorem tixA (F : Fns) : Sx.Told F cIxA := by
  refine ix_told F rfl rfl rfl rfl rfl rfl (-1) rfl (by kernel_rfl) fun ρ ok hp => ?_
  have hp : Holds ρ [_, _, _] := hp
  obtain ⟨d, hd, hl⟩ := ix_bytes ok
  simp only [h_nil, h_cons, d_le, d_eq, d_not, cE, byteE, IE.den, LE.den, lenV, hl, and_true] at hp
  obtain ⟨h1, h2, h3⟩ := hp
  refine ⟨h1, ?_⟩
  rw [hd]
  match d with
  | [] => simp at h2
  | b0 :: b1 :: r => simp at h2 <;> omega
  | [b0] =>
    have e0 : clampK .u8 (intV (celV ([b0].map fun b => [Value.int .u8 b.toNat]) 0 0)) = (b0.toNat : Int) := clamp8 b0
    rw [e0, byte_is] at h3
    show (if b0 == 46 then (0 : Int) else if Lib.indexByte [] 46 == -1 then -1 else Lib.indexByte [] 46 + 1) = -1
    rw [if_neg h3]
    rfl
theorem tixB (F : Fns) : Sx.Told F cIxB := by
  refine ix_told F rfl rfl rfl rfl rfl rfl (-1) rfl (by kernel_rfl) fun ρ ok hp => ?_
  have hp : Holds ρ [_, _, _, _] := hp
  obtain ⟨d, hd, hl⟩ := ix_bytes ok
  simp only [h_nil, h_cons, d_le, d_eq, d_not, cE, byteE, IE.den, LE.den, lenV, hl, and_true] at hp
  obtain ⟨h1, h2, h3, h4⟩ := hp
  refine ⟨h1, ?_⟩
  rw [hd]
  match d with
  | [] => simp at h2 <;> omega
  | [b] => simp at h2 <;> omega
  | b0 :: b1 :: b2 :: r => simp at h2 <;> omega
  | [b0, b1] =>
    have e0 : clampK .u8 (intV (celV ([b0, b1].map fun b => [Value.int .u8 b.toNat]) 0 0)) = (b0.toNat : Int) := clamp8 b0
    have e1 : clampK .u8 (intV (celV ([b0, b1].map fun b => [Value.int .u8 b.toNat]) 1 0)) = (b1.toNat : Int) := clamp8 b1
    rw [e0, byte_is] at h3
    rw [e1, byte_is] at h4
    have i1 : Lib.indexByte [b1] 46 = -1 := by
      show (if b1 == 46 then (0 : Int) else if Lib.indexByte [] 46 == -1 then -1 else Lib.indexByte [] 46 + 1) = -1
      rw [if_neg h4]
      rfl
    show (if b0 == 46 then (0 : Int) else if Lib.indexByte [b1] 46 == -1 then -1 else Lib.indexByte [b1] 46 + 1) = -1
    rw [if_neg h3]
    simp only [i1]
    rfl
end Go.Proofs.YtdfgidogiacmnaaDoor.sih
