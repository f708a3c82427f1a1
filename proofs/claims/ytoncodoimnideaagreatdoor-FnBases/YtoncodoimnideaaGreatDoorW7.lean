import Derived.Test.YtoncodoimnideaaGreatDoorW2
import Derived.Deep.RegionLaw
import Derived.Laws.BytesArg
namespace Go.Proofs.YtoncodoimnideaaGreatDoor
open Go.RowKit

theorem step_append_own {P : Program} {ops : Array Oper} {o : Oper} {a : Act} {w : World} {K : Act → World → Prop} {Q : Exit → Act → World → Prop} {E : Prop}
    (hg : o.guard = none) (s x : Operand) (t : TypeId) (hop : o.op = Op.call { callee := Callee.builtin Builtin.append, args := #[s, x], argTypes := #[t, t] })
    (base : Nat) (e : TypeId) (i : TypeInfo) (z : Value) (size bytes : Nat) (h1 : P.underlying t = some (.slice e)) (h2 : P.info? e = some i) (h3 : i.zero = some z) (h4 : i.size = size) (h5 : i.bytes = bytes) (h6 : z.cells.size = size) (h7 : 0 < size)
    (v : Value) (n : Nat) (xs : List Value) (hs : a.eval s = v) (hown : w.ownsRow base e size v n xs)
    (ad : Addr) (m c : Nat) (news : List Value) (hx : a.eval x = .slice (some ad) m c) (hn : news.length = m * size) (hc : ∀ j u, news[j]? = some u → w.cell? (ad.add j) = some u) (h1c : ∀ u ∈ news, u.oneCell' = true)
    (b1 : n + m ≤ maxLen) (b2 : (n + m) * bytes ≤ 140737488355328) (b3 : base ≤ w.heap.size)
    (hK : ∀ v' w', w'.ownsRow base e size v' (n + m) (xs ++ news) → w.grownBy w' v.ownBlock → K (a.put o.dst v') w') :
    if Region.wanted o (yielded ops a.tmps) = true then Oper.wp P o a w K Q else E := by
  have hw : Region.wanted o (yielded ops a.tmps) = true := by simp [Region.wanted, hg]
  rw [if_pos hw]
  obtain ⟨v', w', hrun, r1, r2, _⟩ := run_append_own (P := P) w base t o.type e i z size bytes h1 h2 h3 h4 h5 h6 h7 v n xs hown ad m c news hn hc h1c b1 b2 b3
  unfold Oper.wp
  simp [execOp, hop, resolve, invoke, builtin, hs, hx, hrun, Result.andThen]
  exact hK v' w' r1 r2

/-- The digit of a number below 16. -/
def hexD (q : Int) : Int := if q < 10 then q + 48 else q + 87
theorem hexD_byte (q : Int) (h0 : 0 ≤ q) (h1 : q ≤ 15) : 0 ≤ hexD q ∧ hexD q ≤ 255 := by unfold hexD; split <;> omega

theorem index_digit (q : Int) (h0 : 0 ≤ q) (h1 : q ≤ 15) (w : World) :
    (Instr.index 9 (.string ⟨#[48, 49, 50, 51, 52, 53, 54, 55, 56, 57, 97, 98, 99, 100, 101, 102]⟩) (.int .u8 q)).run Tryz.prog w = .ok (.int .u8 (hexD q)) w := by
  obtain ⟨k, rfl⟩ := Int.eq_ofNat_of_zero_le h0
  have hk : k < 16 := by omega
  have hc : k = 0 ∨ k = 1 ∨ k = 2 ∨ k = 3 ∨ k = 4 ∨ k = 5 ∨ k = 6 ∨ k = 7 ∨ k = 8 ∨ k = 9 ∨ k = 10 ∨ k = 11 ∨ k = 12 ∨ k = 13 ∨ k = 14 ∨ k = 15 := by omega
  clear hk h0 h1
  rcases hc with rfl | rfl | rfl | rfl | rfl | rfl | rfl | rfl | rfl | rfl | rfl | rfl | rfl | rfl | rfl | rfl
  all_goals (change _ = _; kernel_rfl)

/-- Two digits each. -/
def hexT : List Int → List Int
  | [] => []
  | x :: r => hexD (x / 16) :: hexD (x % 16) :: hexT r
theorem hexT_len (bs : List Int) : (hexT bs).length = 2 * bs.length := by
  induction bs with
  | nil => rfl
  | cons x r ih => simp [hexT, ih]; omega
theorem hexT_append (a b : List Int) : hexT (a ++ b) = hexT a ++ hexT b := by
  induction a with
  | nil => rfl
  | cons x r ih => simp [hexT, ih]
theorem hexT_next (bs : List Int) (k : Nat) (h : k < bs.length) : hexT (bs.take (k + 1)) = hexT (bs.take k) ++ [hexD (bs.getD k 0 / 16), hexD (bs.getD k 0 % 16)] := by
  rw [List.take_succ_eq_append_getElem h, hexT_append]
  simp [hexT, h]

theorem convert_own {B : Nat} {w : World} {a : Option Addr} {n cap : Nat} {bs : List Int} (h : Own B w a n cap bs) : (convert 22 9 (.slice a n cap)).run Tryz.prog w = .ok (.string (strOfNums bs)) w := by
  have hr := h.toRow
  rcases h.row.2 with ⟨hv, h0⟩ | ⟨g, cap', cur, hv, _⟩
  · simp only [Value.slice.injEq] at hv
    obtain ⟨rfl, _, rfl⟩ := hv
    have hb : bs = [] := List.eq_nil_of_length_eq_zero (by rw [hr.len]; exact h0)
    subst hb
    exact run_convert_bytes_nil w 22 5 Tryz.underlying22 Tryz.underlying5 _ _ 9 Tryz.underlying9
  · simp only [Value.slice.injEq] at hv
    obtain ⟨rfl, _, rfl⟩ := hv
    refine run_convert_bytes_arg w 22 5 Tryz.underlying22 Tryz.underlying5 g 0 n cap bs hr.len (fun i hi => ?_) 9 Tryz.underlying9
    obtain ⟨b, off, ha, _, hc⟩ := hr.get i hi
    simp at ha
    obtain ⟨rfl, rfl⟩ := ha
    exact hc

end Go.Proofs.YtoncodoimnideaaGreatDoor
