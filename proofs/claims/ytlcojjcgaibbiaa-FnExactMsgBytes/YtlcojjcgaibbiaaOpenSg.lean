import Derived.Test.YtlcojjcgaibbiaaTR1
import Derived.ProofKit
import Derived.Deep.Slices
import Derived.ChangeArms
import Derived.ChangeSlices
import Derived.WalkKit
namespace Go.Proofs.Ytlcojjcgaibbiaa
open Go.ChangeShapes Go.WideShapes Go.ChangeAt Go.RowKit

theorem KidsT.more {d : Nat} : ∀ {w : World} {a : Option Addr} {n : Nat} {xs : List ItT}, KidsT d w a n xs → KidsT (d + 1) w a n xs := by
  induction d with
  | zero => intro _ _ _ _ h; exact h.elim
  | succ d ih =>
    intro w a n xs h
    refine ⟨h.1, h.2.1, fun k hk => ?_⟩
    obtain ⟨b, off, ha, hlt, ab, nb, cb, ak, nk, ck, c0, c1, c3, c4, hr, hn, hm, hu, hk⟩ := h.2.2 k hk
    exact ⟨b, off, ha, hlt, ab, nb, cb, ak, nk, ck, c0, c1, c3, c4, hr, hn, hm, hu, ih hk⟩
theorem KidsT.le {d d' : Nat} (hd : d ≤ d') {w : World} {a : Option Addr} {n : Nat} {xs : List ItT} (h : KidsT d w a n xs) : KidsT d' w a n xs := by
  induction hd with
  | refl => exact h
  | step _ ih => exact ih.more

theorem open_rowSg {H : Type} {enc : TypeId × Value → H} {W : World} {fuel : Nat} {cs : List Value} {x : DataW H × List MemPlace} (h : DataW.trod enc Try.prog W 0 (fun _ => true) true fuel 22 cs = some x) :
    ∃ a n cap bs, cs = [.slice a n cap] ∧ Row W a n bs ∧ ((a = none → cap = 0) ∧ n ≤ cap) ∧ n ≤ 9223372036854775807 := by
  rcases open_ints Try.underlying22 Try.underlying5 (by kernel_rfl) h with ⟨rfl, _⟩ | ⟨a, len, cap, zs, rfl, _, hl, hm, hz, _, hc, hw⟩
  · have hr : IsRow .u8 W none 0 0 [] := .inl ⟨rfl, rfl, rfl, rfl⟩
    exact ⟨none, 0, 0, _, rfl, hr.row.1, ⟨fun _ => rfl, by omega⟩, by decide⟩
  · have hr : IsRow .u8 W (some a) len cap zs := .inr ⟨a, rfl, hl, hm, by simpa using hz, hc, hw⟩
    exact ⟨some a, len, cap, _, rfl, hr.row.1, ⟨hr.nil, hr.cap.1⟩, by have := hr.cap; omega⟩

/-- What an item's argument reads as. -/
def OpensSg (W : World) (d : Nat) (y : ItT) (cs : List Value) : Prop := ∃ ab nb cb ak nk ck, cs = [.int .u64 y.ky, .int .i64 y.at2, .slice ab nb cb, .slice ak nk ck] ∧ Row W ab nb y.sg ∧ ((ab = none → cb = 0) ∧ nb ≤ cb) ∧ nb ≤ 9223372036854775807 ∧ U64 y.ky ∧ KidsT d W ak nk y.over

def OpensSgS (W : World) (d : Nat) (cs : List Value) : Prop := ∃ a n cap xs, cs = [.slice a n cap] ∧ KidsT d W a n xs

set_option maxRecDepth 20000 in
theorem open_sg_of {H : Type} {enc : TypeId × Value → H} {W : World} {fuel : Nat} (ih : ∀ m, m < fuel → ∀ cs x, DataW.trod enc Try.prog W 0 (fun _ => true) true m 23 cs = some x → OpensSgS W (m + 1) cs)
    {cs : List Value} {x : DataW H × List MemPlace} (h : DataW.trod enc Try.prog W 0 (fun _ => true) true fuel 65 cs = some x) : ∃ y, OpensSg W fuel y cs := by
  obtain ⟨xs, m, rfl, _, hl, hxl, hf⟩ := DataW.trod_struct Try.underlying65 h
  have hl5 : cs.length = 4 := hl.trans (by kernel_rfl)
  have hx5 : xs.length = 4 := hxl
  obtain ⟨c0, c1, c3, c4, rfl⟩ : ∃ c0 c1 c3 c4, cs = [c0, c1, c3, c4] := by
    match cs, hl5 with
    | [c0, c1, c3, c4], _ => exact ⟨c0, c1, c3, c4, rfl⟩
  obtain ⟨x0, x1, x3, x4, rfl⟩ : ∃ c0 c1 c3 c4, xs = [c0, c1, c3, c4] := by
    match xs, hx5 with
    | [c0, c1, c3, c4], _ => exact ⟨c0, c1, c3, c4, rfl⟩
  have e0 : Try.prog.cellsOf 57 = 1 := by kernel_rfl
  have e1 : Try.prog.cellsOf 2 = 1 := by kernel_rfl
  have e3 : Try.prog.cellsOf 22 = 1 := by kernel_rfl
  have e4 : Try.prog.cellsOf 23 = 1 := by kernel_rfl
  have f0 : DataW.trod enc Try.prog W 0 (fun _ => true) true m 57 ((([c0, c1, c3, c4] : List Value).drop 0).take (Try.prog.cellsOf 57)) = some x0 := hf 0 _ rfl
  rw [e0] at f0
  have f1 : DataW.trod enc Try.prog W 0 (fun _ => true) true m 2 ((([c0, c1, c3, c4] : List Value).drop 1).take (Try.prog.cellsOf 2)) = some x1 := hf 1 _ rfl
  rw [e1] at f1
  have f2 : DataW.trod enc Try.prog W 0 (fun _ => true) true m 22 ((([c0, c1, c3, c4] : List Value).drop 2).take (Try.prog.cellsOf 22)) = some x3 := hf 2 _ rfl
  rw [e3] at f2
  have f3 : DataW.trod enc Try.prog W 0 (fun _ => true) true m 23 ((([c0, c1, c3, c4] : List Value).drop 3).take (Try.prog.cellsOf 23)) = some x4 := hf 3 _ rfl
  rw [e4] at f3
  obtain ⟨n0, h0, _, u0⟩ := DataW.trod_int Try.underlying57 f0
  obtain ⟨n1, h1, _, _⟩ := DataW.trod_int Try.underlying2 f1
  obtain ⟨ab, nb, cb, bs, h3, hr, hn, hb⟩ := open_rowSg f2
  obtain ⟨ak, nk, ck, ks, h4, hk⟩ := ih m (by omega) _ _ f3
  simp at h0 h1 h3 h4
  subst h0 h1 h3 h4
  exact ⟨.mk n0 n1 bs ks, ab, nb, cb, ak, nk, ck, rfl, hr, hn, hb, bounds_u64 u0, hk⟩

set_option maxRecDepth 20000 in
theorem open_over {H : Type} {enc : TypeId × Value → H} {W : World} (fuel : Nat) : ∀ cs x, DataW.trod (H := H) enc Try.prog W 0 (fun _ => true) true fuel 23 cs = some x → OpensSgS W (fuel + 1) cs := by
  induction fuel using Nat.strongRecOn with
  | _ fuel ih =>
    intro cs x h
    rcases DataW.trod_slice Try.underlying23 h with ⟨rfl, _⟩ | ⟨a, len, cap, elems, rest, n, rfl, rfl, _, _, hl, hm, hlen, hel, _, _⟩
    · exact ⟨none, 0, 0, [], rfl, ⟨rfl, by omega, fun k hk => absurd hk (by omega)⟩⟩
    · have ec : Try.prog.cellsOf 65 = 4 := by kernel_rfl
      rw [ec] at hel
      have each : ∀ i, i < len → ∃ y : ItT, ∃ cs', W.cells? 0 (a.add (i * 4)) 4 = some cs' ∧ OpensSg W n y cs' := by
        intro i hi
        have he := hel i hi
        rw [List.getElem?_eq_getElem (by omega)] at he
        cases hc : W.cells? 0 (a.add (i * 4)) 4 with
        | none => rw [hc] at he; cases he
        | some cs' =>
          rw [hc] at he
          obtain ⟨y, hy⟩ := open_sg_of (fuel := n) (fun m hm => ih m (by omega)) he
          exact ⟨y, cs', rfl, hy⟩
      obtain ⟨y, hy⟩ := Go.Deep.choose_lt each
      have hm' : len ≤ 9223372036854775807 := by unfold maxLen at hm; omega
      refine ⟨some a, len, cap, (List.range len).map y, rfl, ⟨by simp, hm', fun k hk => ?_⟩⟩
      obtain ⟨cs', hcs, ab, nb, cb, ak, nk, ck, rfl, hr, hnn, hnb, hu, hkk⟩ := hy k hk
      obtain ⟨_, _, hcell⟩ := World.cells?_some hcs
      obtain ⟨b, off, spot⟩ := a
      have hs : spot = none := by
        obtain ⟨cs0, hcs0, _⟩ := hy 0 (by omega)
        obtain ⟨_, hl0, hcell0⟩ := World.cells?_some hcs0
        have h00 := hcell0 0 (by omega)
        rw [List.getElem?_eq_getElem (by omega)] at h00
        simpa [Addr.add] using World.cell?_spot h00
      subst hs
      have ey : ((List.range len).map y).getD k default = y k := by simp [hk]
      rw [ey]
      have cc : ∀ j, j < 4 → W.cell? ⟨b, off + k * 4 + j, none⟩ = [Value.int .u64 (y k).ky, .int .i64 (y k).at2, .slice ab nb cb, .slice ak nk ck][j]? := by
        intro j hj
        have := hcell j hj
        rw [Addr.add_lit, Addr.add_lit] at this
        exact this
      exact ⟨b, off, rfl, World.block_lt_of_cell? W _ (cc 0 (by omega)), ab, nb, cb, ak, nk, ck, cc 0 (by omega), cc 1 (by omega), cc 2 (by omega), cc 3 (by omega), hr, hnn, hnb, hu, hkk.more⟩

theorem open_sg {H : Type} {enc : TypeId × Value → H} {W : World} {fuel : Nat} {cs : List Value} {x : DataW H × List MemPlace} (h : DataW.trod enc Try.prog W 0 (fun _ => true) true fuel 65 cs = some x) : ∃ y, OpensSg W fuel y cs :=
  open_sg_of (fun m _ => open_over m) h

/-- What a Msg's argument reads as. -/
def OpensMsg (W : World) (am : Option Addr) (nn : Nat) (ws : List Int) (D : Nat) (a : Option Addr) (n : Nat) (xs : List ItT) : Prop := Row W am nn ws ∧ nn ≤ 9223372036854775807 ∧ KidsT D W a n xs

set_option maxRecDepth 20000 in
theorem open_msg {H : Type} {enc : TypeId × Value → H} {W : World} {fuel : Nat} {cs : List Value} {x : DataW H × List MemPlace} (h : DataW.trod enc Try.prog W 0 (fun _ => true) true fuel 25 cs = some x) :
    ∃ am nn cm ws D a n c xs, cs = [.slice am nn cm, .slice a n c] ∧ OpensMsg W am nn ws D a n xs := by
  obtain ⟨xs, m, rfl, _, hl, hxl, hf⟩ := DataW.trod_struct Try.underlying25 h
  have hl5 : cs.length = 2 := hl.trans (by kernel_rfl)
  have hx5 : xs.length = 2 := hxl
  obtain ⟨c0, c1, rfl⟩ : ∃ c0 c1, cs = [c0, c1] := by
    match cs, hl5 with
    | [c0, c1], _ => exact ⟨c0, c1, rfl⟩
  obtain ⟨x0, x1, rfl⟩ : ∃ c0 c1, xs = [c0, c1] := by
    match xs, hx5 with
    | [c0, c1], _ => exact ⟨c0, c1, rfl⟩
  have e3 : Try.prog.cellsOf 22 = 1 := by kernel_rfl
  have e4 : Try.prog.cellsOf 23 = 1 := by kernel_rfl
  have f0 : DataW.trod enc Try.prog W 0 (fun _ => true) true m 22 ((([c0, c1] : List Value).drop 0).take (Try.prog.cellsOf 22)) = some x0 := hf 0 _ rfl
  rw [e3] at f0
  have f1 : DataW.trod enc Try.prog W 0 (fun _ => true) true m 23 ((([c0, c1] : List Value).drop 1).take (Try.prog.cellsOf 23)) = some x1 := hf 1 _ rfl
  rw [e4] at f1
  obtain ⟨am, nn, cm, ws, h3, hr, hn, hb⟩ := open_rowSg f0
  obtain ⟨a, n, c, ks, h4, hk⟩ := open_over m _ _ f1
  simp at h3 h4
  subst h3 h4
  exact ⟨am, nn, cm, ws, m + 1, a, n, c, ks, rfl, hr, hb, hk⟩

end Go.Proofs.Ytlcojjcgaibbiaa
