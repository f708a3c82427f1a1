import Derived.Test.YtbfjkmlmnhphoaaDoorGW1W2
import Derived.Deep.RegionLaw
import Derived.Laws.BytesArg
import Derived.Test.YtbfjkmlmnhphoaaDoorBase
namespace Go.Proofs.YtbfjkmlmnhphoaaDoor
open Go.RowKit

theorem step_append_own {P : Program} {ops : Array Oper} {o : Oper} {a : Act} {w : World} {K : Act → World → Prop} {Q : Exit → Act → World → Prop} {E : Prop}
    (hg : o.guard = none) (s x : Operand) (t : TypeId) (hop : o.op = Op.call { callee := Callee.builtin Builtin.append, args := #[s, x], argTypes := #[t, t] })
    (base : Nat) (e : TypeId) (i : TypeInfo) (z : Value) (size bytes : Nat) (h1 : P.underlying t = some (.slice e)) (h2 : P.info? e = some i) (h3 : i.zero = some z) (h4 : i.size = size) (h5 : i.bytes = bytes) (h6 : z.cells.size = size) (h7 : 0 < size)
    (v : Value) (n : Nat) (xs : List Value) (hs : a.eval s = v) (hown : w.ownsRow base e size v n xs)
    (ad : Addr) (m c : Nat) (news : List Value) (hx : a.eval x = .slice (some ad) m c) (hn : news.length = m * size) (hc : ∀ j u, news[j]? = some u → w.cell? (ad.add j) = some u) (h1c : ∀ u ∈ news, u.oneCell' = true)
    (b1 : n + m ≤ maxLen) (b2 : (n + m) * bytes ≤ 140737488355328) (b3 : base ≤ w.heap.size)
    (hK : ∀ v' w', w'.ownsRow base e size v' (n + m) (xs ++ news) → w.grownBy w' v.ownBlock → K (a.put o.dst v') w') :
    if Region.wanted o (yielded ops a.tmps) = true then Oper.wp P o a w K Q else E := by
  have hw : Region.wanted o (yielded ops a.tmps) = true := by simp [Region.wanted, hg]
  rw [if_pos hw]
  obtain ⟨v', w', hrun, r1, r2, _⟩ := run_append_own (P := P) w base t o.type e i z size bytes h1 h2 h3 h4 h5 h6 h7 v n xs hown ad m c news hn hc h1c b1 b2 b3
  unfold Oper.wp
  simp [execOp, hop, resolve, invoke, builtin, hs, hx, hrun, Result.andThen]
  exact hK v' w' r1 r2

/-- The digit of a number below 16. -/
def hexD (q : Int) : Int := if q < 10 then q + 48 else q + 87
theorem hexD_byte (q : Int) (h0 : 0 ≤ q) (h1 : q ≤ 15) : 0 ≤ hexD q ∧ hexD q ≤ 255 := by unfold hexD; split <;> omega

theorem index_digit (q : Int) (h0 : 0 ≤ q) (h1 : q ≤ 15) (w : World) :
    (Instr.index 9 (.string ⟨#[48, 49, 50, 51, 52, 53, 54, 55, 56, 57, 97, 98, 99, 100, 101, 102]⟩) (.int .u8 q)).run Tryd.prog w = .ok (.int .u8 (hexD q)) w := by
  obtain ⟨k, rfl⟩ := Int.eq_ofNat_of_zero_le h0
  have hk : k < 16 := by omega
  have hc : k = 0 ∨ k = 1 ∨ k = 2 ∨ k = 3 ∨ k = 4 ∨ k = 5 ∨ k = 6 ∨ k = 7 ∨ k = 8 ∨ k = 9 ∨ k = 10 ∨ k = 11 ∨ k = 12 ∨ k = 13 ∨ k = 14 ∨ k = 15 := by omega
  clear hk h0 h1
  rcases hc with rfl | rfl | rfl | rfl | rfl | rfl | rfl | rfl | rfl | rfl | rfl | rfl | rfl | rfl | rfl | rfl
  all_goals (change _ = _; kernel_rfl)

/-- Two digits each. -/
def hexT : List Int → List Int
  | [] => []
  | x :: r => hexD (x / 16) :: hexD (x % 16) :: hexT r
theorem hexT_len (bs : List Int) : (hexT bs).length = 2 * bs.length := by
  induction bs with
  | nil => rfl
  | cons x r ih => simp [hexT, ih]; omega
theorem hexT_append (a b : List Int) : hexT (a ++ b) = hexT a ++ hexT b := by
  induction a with
  | nil => rfl
  | cons x r ih => simp [hexT, ih]
theorem hexT_next (bs : List Int) (k : Nat) (h : k < bs.length) : hexT (bs.take (k + 1)) = hexT (bs.take k) ++ [hexD (bs.getD k 0 / 16), hexD (bs.getD k 0 % 16)] := by
  rw [List.take_succ_eq_append_getElem h, hexT_append]
  simp [hexT, h]

theorem convert_own {B : Nat} {w : World} {a : Option Addr} {n cap : Nat} {bs : List Int} (h : Own B w a n cap bs) : (convert 26 9 (.slice a n cap)).run Tryd.prog w = .ok (.string (strOfNums bs)) w := by
  have hr := h.toRow
  rcases h.row.2 with ⟨hv, h0⟩ | ⟨g, cap', cur, hv, _⟩
  · simp only [Value.slice.injEq] at hv
    obtain ⟨rfl, _, rfl⟩ := hv
    have hb : bs = [] := List.eq_nil_of_length_eq_zero (by rw [hr.len]; exact h0)
    subst hb
    exact run_convert_bytes_nil w 26 5 Tryd.underlying26 Tryd.underlying5 _ _ 9 Tryd.underlying9
  · simp only [Value.slice.injEq] at hv
    obtain ⟨rfl, _, rfl⟩ := hv
    refine run_convert_bytes_arg w 26 5 Tryd.underlying26 Tryd.underlying5 g 0 n cap bs hr.len (fun i hi => ?_) 9 Tryd.underlying9
    obtain ⟨b, off, ha, _, hc⟩ := hr.get i hi
    simp at ha
    obtain ⟨rfl, rfl⟩ := ha
    exact hc

end Go.Proofs.YtbfjkmlmnhphoaaDoor

namespace Go.Proofs.YtbfjkmlmnhphoaaDoor
open Go.RowKit

/-- The byte at a place of a text. -/
def cAt (s : ByteArray) (j : Nat) : Int := ((s.data.toList.getD j 0).toNat : Int)
theorem cAt_get (s : ByteArray) (j : Nat) (h : j < s.size) : cAt s j = (s[j].toNat : Int) := by
  have h' : j < s.data.toList.length := by simpa using h
  unfold cAt
  rw [List.getD_eq_getElem?_getD, List.getElem?_eq_getElem h']
  rfl
def SaysW (P : Prop) (w : World) (e : Ending) (w' : World) : Prop := ∃ b, e = .returned (.bool b) ∧ Hid (b = true ↔ P) ∧ w = w'
theorem saysW_t {P : Prop} {w : World} (h : P) : SaysW P w (.returned (.bool true)) w := ⟨true, rfl, ⟨fun _ => h, fun _ => rfl⟩, rfl⟩
theorem saysW_f {P : Prop} {w : World} (h : ¬ P) : SaysW P w (.returned (.bool false)) w := ⟨false, rfl, ⟨fun e => (by cases e), fun e => absurd e h⟩, rfl⟩

end Go.Proofs.YtbfjkmlmnhphoaaDoor

namespace Go.Proofs.YtbfjkmlmnhphoaaDoor
open Go.RowKit

def digOk (x : Int) : Bool := decide (48 ≤ x ∧ x ≤ 57 ∨ 97 ≤ x ∧ x ≤ 102)
def digV (x : Int) : Int := if 48 ≤ x ∧ x ≤ 57 then x - 48 else if 97 ≤ x ∧ x ≤ 102 then x - 87 else 0
theorem digV_bd (x : Int) : 0 ≤ digV x ∧ digV x ≤ 15 := by
  unfold digV
  split
  · omega
  · split <;> omega

def DigPost (x : Int) (w : World) (e : Ending) (w' : World) : Prop :=
  ∃ (v : Int) (ok : Bool), e = .returned (.tuple #[.int .u8 v, .bool ok]) ∧ Hid (v = digV x) ∧ Hid (ok = digOk x) ∧ 0 ≤ v ∧ v ≤ 15 ∧ w = w'

theorem digPost_mk (x v : Int) (ok : Bool) (w : World) (hv : v = digV x) (ho : ok = digOk x) : DigPost x w (.returned (.tuple #[.int .u8 v, .bool ok])) w :=
  ⟨v, ok, rfl, hv, ho, by rw [hv]; exact (digV_bd x).1, by rw [hv]; exact (digV_bd x).2, rfl⟩

theorem dig_cases (x : Int) : (48 ≤ x ∧ x ≤ 57 ∧ digV x = x - 48 ∧ digOk x = true) ∨ (97 ≤ x ∧ x ≤ 102 ∧ digV x = x - 97 + 10 ∧ digOk x = true) ∨ (digV x = 0 ∧ digOk x = false ∧ (x < 48 ∨ (57 < x ∧ x < 97) ∨ 102 < x)) := by
  unfold digV digOk
  by_cases h1 : 48 ≤ x ∧ x ≤ 57
  · left; simp [h1]
  · by_cases h2 : 97 ≤ x ∧ x ≤ 102
    · right; left; rw [if_neg h1, if_pos h2]; simp [h2]; omega
    · right; right; rw [if_neg h1, if_neg h2]; simp; omega


def pairV (s : ByteArray) (j : Nat) : Int := digV (cAt s (2 * j)) * 16 + digV (cAt s (2 * j + 1))
def hexL (s : ByteArray) (k : Nat) : List Int := (List.range k).map (pairV s)
def hexGood (s : ByteArray) (k : Nat) : Prop := ∀ j, j < 2 * k → digOk (cAt s j) = true
def hexRes (s : ByteArray) (bs : List Int) (ok : Bool) : Prop := (ok = true ∧ s.size % 2 = 0 ∧ hexGood s (s.size / 2) ∧ bs = hexL s (s.size / 2)) ∨ (ok = false ∧ bs = [] ∧ ¬ (s.size % 2 = 0 ∧ hexGood s (s.size / 2)))

theorem hexRes_one {s : ByteArray} {a b : List Int} {x y : Bool} (h : hexRes s a x) (k : hexRes s b y) : a = b ∧ x = y := by
  rcases h with ⟨rfl, h1, h2, rfl⟩ | ⟨rfl, rfl, hn⟩
  · rcases k with ⟨rfl, _, _, rfl⟩ | ⟨rfl, rfl, kn⟩
    · exact ⟨rfl, rfl⟩
    · exact absurd ⟨h1, h2⟩ kn
  · rcases k with ⟨rfl, k1, k2, rfl⟩ | ⟨rfl, rfl, kn⟩
    · exact absurd ⟨k1, k2⟩ hn
    · exact ⟨rfl, rfl⟩

theorem hexL_len (s : ByteArray) (k : Nat) : (hexL s k).length = k := by simp [hexL]
theorem hexL_succ (s : ByteArray) (k : Nat) : hexL s (k + 1) = hexL s k ++ [pairV s k] := by simp [hexL, List.range_succ]
theorem pairV_byte (s : ByteArray) (k : Nat) : 0 ≤ pairV s k ∧ pairV s k ≤ 255 := by
  have h1 := digV_bd (cAt s (2 * k))
  have h2 := digV_bd (cAt s (2 * k + 1))
  unfold pairV; omega
theorem hexL_byte (s : ByteArray) (k : Nat) : ∀ j, 0 ≤ (hexL s k).getD j 0 ∧ (hexL s k).getD j 0 ≤ 255 := by
  intro j
  by_cases h : j < k
  · simp [hexL, h, pairV_byte]
  · rw [List.getD_eq_getElem?_getD, List.getElem?_eq_none (by rw [hexL_len]; omega)]; simp
theorem hexGood_zero (s : ByteArray) : hexGood s 0 := fun j h => by omega
theorem hexGood_succ {s : ByteArray} {k : Nat} (h : hexGood s k) (h1 : digOk (cAt s (2 * k)) = true) (h2 : digOk (cAt s (2 * k + 1)) = true) : hexGood s (k + 1) := by
  intro j hj
  by_cases e1 : j = 2 * k
  · rw [e1]; exact h1
  · by_cases e2 : j = 2 * k + 1
    · rw [e2]; exact h2
    · exact h j (by omega)
theorem or4 (x y : Int) (hx : 0 ≤ x) (hx' : x ≤ 15) (hy : 0 ≤ y) (hy' : y ≤ 15) : bits .or .u8 (x * 16) y = x * 16 + y :=
  bits_join .u8 8 (by decide) wraps_u8 4 (x * 16) y (by omega) (by omega) (by omega) hy (by omega) (by omega)
theorem hexBad {s : ByteArray} {k : Nat} (hk : k < s.size / 2) {j : Nat} (hj : j = 2 * k ∨ j = 2 * k + 1) (h : digOk (cAt s j) = false) : hexRes s [] false := by
  refine .inr ⟨rfl, rfl, fun hh => ?_⟩
  have := hh.2 j (by omega)
  rw [h] at this
  exact absurd this (by decide)

/-- What HexRead answers. -/
def HexPost (s : ByteArray) (w : World) (e : Ending) (w' : World) : Prop :=
  ∃ (a : Option Addr) (n cap : Nat) (bs : List Int) (ok : Bool), e = .returned (.tuple #[.slice a n cap, .bool ok]) ∧ hexRes s bs ok ∧ Own w.heap.size w' a n cap bs ∧ Below w.heap.size w w'

theorem own_new_empty {B : Nat} (w : World) (h : B ≤ w.heap.size) : Own B (w.alloc (.cells #[] 5)) (some ⟨w.heap.size, 0, none⟩) 0 0 [] :=
  ⟨World.ownsRow_lit w #[] 0 h (Nat.zero_le _) rfl, by simp⟩
theorem own_nil (B : Nat) (w : World) : Own B w none 0 0 [] := ⟨World.ownsRow_nil _ _ _ _, by simp⟩

/-- The first k pairs, and then zeros up to m. -/
def hexHalf (s : ByteArray) (m k : Nat) : List Int := hexL s k ++ List.replicate (m - k) 0
theorem hexHalf_zero (s : ByteArray) (m : Nat) : hexHalf s m 0 = List.replicate m 0 := by simp [hexHalf, hexL]
theorem hexHalf_all (s : ByteArray) (m : Nat) : hexHalf s m m = hexL s m := by simp [hexHalf]
theorem hexHalf_len (s : ByteArray) (m k : Nat) (h : k ≤ m) : (hexHalf s m k).length = m := by simp [hexHalf, hexL_len]; omega
theorem hexHalf_set (s : ByteArray) (m k : Nat) (h : k < m) : (hexHalf s m k).set k (pairV s k) = hexHalf s m (k + 1) := by
  unfold hexHalf
  rw [show m - k = (m - (k + 1)) + 1 by omega, List.replicate_succ, set_append_mid _ _ _ _ _ (hexL_len s k), hexL_succ, List.append_assoc]
  rfl

end Go.Proofs.YtbfjkmlmnhphoaaDoor
