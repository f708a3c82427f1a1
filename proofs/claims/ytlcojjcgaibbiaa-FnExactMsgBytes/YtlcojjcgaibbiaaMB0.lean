import Derived.Test.YtlcojjcgaibbiaaTB0b
import Derived.Test.YtlcojjcgaibbiaaRJ
import Derived.Test.YtlcojjcgaibbiaaRG
import Derived.Test.YtlcojjcgaibbiaaTU0
import Derived.Deep.AppendLies
import Derived.ArgAppend
set_option linter.unusedVariables false
namespace Go.Proofs.Ytlcojjcgaibbiaa
open Go.RowKit Go.Sort

theorem opw_buildSliceT {P : Program} {Q : Exit → Act → World → Prop} {o : Oper} {a : Act} {w : World} {K : Act → World → Prop} (t : TypeId) (n : Nat) (parts : Array (Nat × Operand)) (ho : o.op = .buildSlice t n parts) (vs : Array (Nat × Value)) (hvs : (parts.map fun p => (p.1, a.eval p.2)) = vs) (v : Value) (w' : World)
    (hr : (Instr.buildSlice t n vs).run P w = .ok v w') (h : K (a.put o.dst v) w') : o.wp P a w K Q := by
  refine opw_value v ?_ h
  have hvs' : (parts.map fun x : Nat × Operand => match x with | (i, x) => (i, a.eval x)) = vs := hvs
  unfold execOp
  simp only [ho]
  rw [hvs']
  simp [hr]
/-- A row of bytes in the block g, made by us. -/
structure RowG (B : Nat) (w : World) (g k n : Nat) (bs : List Int) : Prop where
  ge : B ≤ g
  row : RowI (fun b => b = g) w (some ⟨g, k, none⟩) n bs
theorem Row.atG {w : World} {g k n : Nat} {bs : List Int} (h : Row w (some ⟨g, k, none⟩) n bs) : RowI (fun b => b = g) w (some ⟨g, k, none⟩) n bs := ⟨h, fun x hx _ => by injection hx with hx; rw [← hx]⟩
theorem RowG.kept {B : Nat} {w w' : World} {g k n : Nat} {bs : List Int} (h : RowG B w g k n bs) (hb : Below w.heap.size w w') : RowG B w' g k n bs := ⟨h.ge, h.row.touch (P := fun _ => False) (fun _ _ h => h) (TouchX.of_below hb)⟩
theorem RowG.touched {B : Nat} {w w' : World} {g k n gb : Nat} {bs : List Int} (h : RowG B w g k n bs) (ht : Touch gb (gb + 1) w w') (hlt : gb < B) : RowG B w' g k n bs := ⟨h.ge, h.row.touch (fun b hb e => by have := h.ge; omega) ht.toX⟩
/-- A row of items in blocks of our own from B on. -/
def KidG (B : Nat) (w : World) (g d : Nat) (ks : List It) : Prop := ∃ S : Nat → Prop, KidsI d S w (some ⟨g, 0, none⟩) ks.length ks ∧ ∀ b, S b → B ≤ b ∧ b < w.heap.size
theorem KidG.kept {B : Nat} {w w' : World} {g d : Nat} {ks : List It} (h : KidG B w g d ks) (hb : Below w.heap.size w w') : KidG B w' g d ks := by
  obtain ⟨S, h1, h2⟩ := h
  exact ⟨S, h1.touch (P := fun _ => False) (fun _ _ h => h) (TouchX.of_below hb), fun b hs => ⟨(h2 b hs).1, Nat.lt_of_lt_of_le (h2 b hs).2 hb.size⟩⟩
theorem KidG.touched {B : Nat} {w w' : World} {g d gb : Nat} {ks : List It} (h : KidG B w g d ks) (ht : Touch gb (gb + 1) w w') (hlt : gb < B) : KidG B w' g d ks := by
  obtain ⟨S, h1, h2⟩ := h
  exact ⟨S, h1.touch (fun b hb e => by have := (h2 b hb).1; omega) ht.toX, fun b hs => ⟨(h2 b hs).1, Nat.lt_of_lt_of_le (h2 b hs).2 ht.size⟩⟩
theorem KidG.mono {B B' : Nat} {w : World} {g d : Nat} {ks : List It} (h : KidG B w g d ks) (hB : B' ≤ B) : KidG B' w g d ks := by
  obtain ⟨S, h1, h2⟩ := h
  exact ⟨S, h1, fun b hs => ⟨Nat.le_trans hB (h2 b hs).1, (h2 b hs).2⟩⟩
theorem RowG.itv {B : Nat} {w : World} {g k n : Nat} {bs : List Int} (h : RowG B w g k n bs) (t : Int) (hn : n ≤ 9223372036854775807) {T : Nat → Prop} (hT : T g) : ItV 1 T w (.mk 0 t false bs []) (some ⟨g, k, none⟩) n n none 0 0 :=
  ⟨h.row.mono (fun b hb => by rw [hb]; exact hT), fun h => (by cases h), hn, KidsI.none 0 _ _ _⟩
theorem RowG.blk {B : Nat} {w : World} {g k n : Nat} {bs : List Int} (h : RowG B w g k n bs) (hn : 0 < n) : g < w.heap.size := by
  obtain ⟨b, off, ha, hlt, _⟩ := h.row.row.get 0 hn
  injection ha with ha
  injection ha with h1 h2
  rw [h1]; exact hlt
theorem kidG_two {B : Nat} {X : World} {g1 k1 n1 g2 k2 n2 t1 : Nat} {b1 b2 : List Int} (hB : B ≤ X.heap.size) (h1 : RowG B X g1 k1 n1 b1) (h2 : RowG B X g2 k2 n2 b2) (z1 : 0 < n1 ∧ n1 ≤ 1000) (z2 : 0 < n2 ∧ n2 ≤ 1000) : KidG B (X.alloc (.cells #[.int .i64 0, .int .i64 (t1 : Nat), .bool false, .slice (some ⟨g1, k1, none⟩) n1 n1, .slice none 0 0, .int .i64 0, .int .i64 2, .bool false, .slice (some ⟨g2, k2, none⟩) n2 n2, .slice none 0 0] 43)) X.heap.size 2 [.mk 0 (t1 : Nat) false b1 [], .mk 0 2 false b2 []] := by
  refine ⟨fun b => b = g1 ∨ b = g2 ∨ b = X.heap.size, kidsI_two (S := fun b => b = g1 ∨ b = g2) (h1.itv (t1 : Nat) (by omega) (.inl rfl)) (h2.itv 2 (by omega) (.inr rfl)) (fun b hb => hb.elim .inl (fun h => .inr (.inl h))) (.inr (.inr rfl)) rfl, fun b hb => ?_⟩
  have s : (X.alloc (.cells #[.int .i64 0, .int .i64 (t1 : Nat), .bool false, .slice (some ⟨g1, k1, none⟩) n1 n1, .slice none 0 0, .int .i64 0, .int .i64 2, .bool false, .slice (some ⟨g2, k2, none⟩) n2 n2, .slice none 0 0] 43)).heap.size = X.heap.size + 1 := by simp
  have l1 := h1.blk z1.1
  have l2 := h2.blk z2.1
  have := h1.ge
  have := h2.ge
  omega
set_option maxRecDepth 10000 in
set_option maxHeartbeats 1000000 in
theorem structItem_agg (a : Option Addr) (n c : Nat) (w : World) :
    Calls Try.prog 46 #[.slice a n c] w fun e w' => e = .returned (.agg #[.int .i64 0, .int .i64 16, .bool true, .slice none 0 0, .slice a n c]) ∧ Below w.heap.size w w' := by
  go_enter Try.func46, Try.ntmps46
  go_wp2_with fail
  try simp only [Exit.inBlock, Exit.then]
  exact bodyPost_ret (results_it rfl _ w.heap.size rfl _ _ _ _ _ _ (heap_alloc_new w _)) rfl ⟨rfl, (Below.refl _ _).alloc (Nat.le_refl _) _⟩

theorem Try.infoIt : (Try.prog.info? 43).map (fun i => (i.zero, i.size, i.bytes)) = some (some (.agg #[.int .i64 0, .int .i64 0, .bool false, .slice none 0 0, .slice none 0 0]), 5, 72) := by kernel_rfl
/-- A row of items of our own; all else of it from R on. -/
def OwnItR (d R : Nat) (w : World) (a : Option Addr) (n c : Nat) (xs : List It) : Prop := OwnIts d (fun b => R ≤ b ∧ b < w.heap.size ∧ (Value.slice a n c).ownBlock ≠ some b) w a n c xs ∧ ∀ b, (Value.slice a n c).ownBlock = some b → R ≤ b
theorem ownItR_none (d R : Nat) (w : World) : OwnItR d R w none 0 0 [] := ⟨(OwnIts.nil d w).mono (fun _ h => h.elim) (fun b hb => by cases hb), fun b hb => by cases hb⟩
theorem OwnItR.kept {d R : Nat} {w w' : World} {a : Option Addr} {n c : Nat} {xs : List It} (h : OwnItR d R w a n c xs) (hb : Below w.heap.size w w') : OwnItR d R w' a n c xs :=
  ⟨(h.1.kept hb).mono (fun k hk => ⟨hk.1, Nat.lt_of_lt_of_le hk.2.1 hb.size, hk.2.2⟩) (fun b hb hc => hc.2.2 hb), h.2⟩
/-- One more, whose parts were made behind all this. -/
theorem OwnItR.appended {d R : Nat} {w1 w : World} {a : Option Addr} {n c : Nat} {xs : List It} {y : It} {ab : Option Addr} {nb cb : Nat} {ak : Option Addr} {nk ck : Nat} {g' c' : Nat} {T : Nat → Prop}
    (h : OwnItR d R w a n c xs) (hy : ItV d T w y ab nb cb ak nk ck) (hT : ∀ b, T b → R ≤ b ∧ b < w.heap.size ∧ (Value.slice a n c).ownBlock ≠ some b) (hn : n + 1 ≤ 9223372036854775807)
    {vs : List Value} (hv0 : w.ownsRow 0 43 5 (.slice a n c) n vs) (hv : w1.ownsRow 0 43 5 (.slice (some ⟨g', 0, none⟩) (n + 1) c') (n + 1) (vs ++ itc y ab nb cb ak nk ck)) (hg : w.grownBy w1 (Value.slice a n c).ownBlock) (hl : (Value.slice a n c).ownBlock = some g' ∨ g' = w.heap.size) (hR : R ≤ w.heap.size) : OwnItR d R w1 (some ⟨g', 0, none⟩) (n + 1) c' (xs ++ [y]) := by
  refine ⟨((h.1.appended (hy.mono hT) (fun b hb => hb) (fun b hb hc => hc.2.2 hb) (fun b hb => hb.2.1) hn hv0 hv hg hl)).mono (fun k hk => ⟨hk.1, Nat.lt_of_lt_of_le hk.2.1 hg.size, fun e => ?_⟩) (fun b hb hc => hc.2.2 hb), fun b hb => ?_⟩
  · have e2 : g' = k := by injection e
    rcases hl with hl | hl
    · exact hk.2.2 (by rw [hl, e2])
    · have := hk.2.1
      omega
  · have e2 : g' = b := by injection hb
    rcases hl with hl | hl
    · rw [← e2]; exact h.2 g' hl
    · omega
theorem OwnItR.row {d R : Nat} {w : World} {a : Option Addr} {n c : Nat} {xs : List It} (h : OwnItR d R w a n c xs) : ∃ vs, w.ownsRow 0 43 5 (.slice a n c) n vs := by
  obtain ⟨vs, h1, _⟩ := h.1.own
  exact ⟨vs, h1⟩
theorem OwnItR.kids {d R : Nat} {w : World} {a : Option Addr} {n c : Nat} {xs : List It} (h : OwnItR d R w a n c xs) : KidsI (d + 1) (fun b => R ≤ b ∧ b < w.heap.size) w a n xs := by
  obtain ⟨vs, hv⟩ := h.row
  exact h.1.kids (fun k hk => ⟨hk.1, hk.2.1⟩) (fun b hb => ⟨h.2 b hb, (hv.lt b hb).2⟩)
def I64R (xs : List (Int × Int)) : Prop := ∀ k, -9223372036854775808 ≤ (xs.getD k (0, 0)).2 ∧ (xs.getD k (0, 0)).2 ≤ 9223372036854775807

theorem opw_append_grows {P : Program} {o : Oper} {a : Act} {w : World} {K : Act → World → Prop} {Q : Exit → Act → World → Prop} (s x : Nat) (t : TypeId) (hop : o.op = Op.call { callee := Callee.builtin Builtin.append, args := #[.tmp s, .tmp x], argTypes := #[t, t] })
    (e : TypeId) (i : TypeInfo) (z : Value) (size bytes : Nat) (ht : P.underlying t = some (.slice e)) (hi : P.info? e = some i) (hz : i.zero = some z) (hsize : i.size = size) (hby : i.bytes = bytes) (hzs : z.cells.size = size) (hsz : 0 < size)
    (b : Addr) (n cap : Nat) (olds : List Value) (hs : aT a s = .slice (some b) n cap) (hlo : olds.length = n * size) (holds : ∀ j u, olds[j]? = some u → w.cell? (b.add j) = some u)
    (ad : Addr) (m c : Nat) (news : List Value) (hx : aT a x = .slice (some ad) m c) (hl : news.length = m * size) (hnews : ∀ j u, news[j]? = some u → w.cell? (ad.add j) = some u)
    (hg : cap < n + m) (h63 : n + m ≤ maxLen) (hbytes : (n + m) * bytes ≤ 140737488355328)
    (hK : ∀ v' w', w'.ownsRow w.heap.size e size v' (n + m) (olds ++ news) → w.grownBy w' none → K (a.put o.dst v') w') : o.wp P a w K Q := by
  have hs' : a.eval (.tmp s) = .slice (some b) n cap := hs
  have hx' : a.eval (.tmp x) = .slice (some ad) m c := hx
  obtain ⟨v', w', hrun, r1, r2⟩ := run_append_arg_grows (P := P) w t o.type e i z size bytes ht hi hz hsize hby hzs hsz b n cap olds hlo holds ad m c news hl hnews hg h63 hbytes
  unfold Oper.wp
  simp [execOp, hop, resolve, invoke, builtin, hs', hx', hrun, Result.andThen]
  exact hK v' w' r1 r2
/-- A row of items, read. -/
def KidF (w : World) (g : Nat) (ks : List It) : Prop := KidsI 4 (fun _ => True) w (some ⟨g, 0, none⟩) ks.length ks
theorem KidF.kept {w w' : World} {g : Nat} {ks : List It} (h : KidF w g ks) (hb : Below w.heap.size w w') : KidF w' g ks := KidsI.touch (P := fun _ => False) h (fun _ _ h => h) (TouchX.of_below hb)
theorem KidF.kids {w : World} {g : Nat} {ks : List It} (h : KidF w g ks) : Kids 4 w (some ⟨g, 0, none⟩) ks.length ks := KidsI.kids h
structure ListG (w : World) (ao : Option Addr) (n : Nat) (ks : List It) : Prop where
  kids : KidsI 3 (fun _ => True) w ao n ks
theorem ListG.kept {w w' : World} {ao : Option Addr} {n : Nat} {ks : List It} (h : ListG w ao n ks) (hb : Below w.heap.size w w') : ListG w' ao n ks := ⟨h.kids.touch (P := fun _ => False) (fun _ _ h => h) (TouchX.of_below hb)⟩
theorem ListG.itv {w : World} {ao : Option Addr} {n co : Nat} {ks : List It} (h : ListG w ao n ks) : ItV 3 (fun _ => True) w (lstI ks) none 0 0 ao n co :=
  ⟨⟨⟨rfl, fun j hj => absurd hj (Nat.not_lt_zero _), by simp [lstI, It.body]⟩, fun _ _ _ => trivial⟩, fun _ => rfl, by decide, h.kids⟩
theorem kidF_three {B0 B : Nat} {W : World} {gf cf g1 k1 n1 g2 k2 n2 : Nat} {b1 b2 : List Int} {y : It} {ab : Option Addr} {nb cb : Nat} {ak : Option Addr} {nk ck : Nat}
    (hv : W.ownsRow B0 43 5 (.slice (some ⟨gf, 0, none⟩) 3 cf) 3 ([.int .i64 0, .int .i64 2, .bool false, .slice (some ⟨g1, k1, none⟩) n1 n1, .slice none 0 0, .int .i64 0, .int .i64 2, .bool false, .slice (some ⟨g2, k2, none⟩) n2 n2, .slice none 0 0] ++ [.int .i64 y.cls, .int .i64 y.tag, .bool y.cons, .slice ab nb cb, .slice ak nk ck]))
    (h1 : RowG B W g1 k1 n1 b1) (h2 : RowG B W g2 k2 n2 b2) (hy : ItV 3 (fun _ => True) W y ab nb cb ak nk ck) (z1 : n1 ≤ 1000) (z2 : n2 ≤ 1000) : KidF W gf [.mk 0 2 false b1 [], .mk 0 2 false b2 [], y] := by
  have hc : ∀ j, j < 15 → W.cell? ⟨gf, 0 + j, none⟩ = ([.int .i64 0, .int .i64 2, .bool false, .slice (some ⟨g1, k1, none⟩) n1 n1, .slice none 0 0, .int .i64 0, .int .i64 2, .bool false, .slice (some ⟨g2, k2, none⟩) n2 n2, .slice none 0 0] ++ [.int .i64 y.cls, .int .i64 y.tag, .bool y.cons, .slice ab nb cb, .slice ak nk ck] : List Value)[j]? := fun j hj => (congrArg (fun q => W.cell? ⟨gf, q, none⟩) (Nat.zero_add j)).trans (hv.cellAt j hj)
  have i1 : ItV 3 (fun _ => True) W (.mk 0 2 false b1 []) (some ⟨g1, k1, none⟩) n1 n1 none 0 0 := ((h1.itv 2 (by omega) (T := fun _ => True) trivial).more).more
  have i2 : ItV 3 (fun _ => True) W (.mk 0 2 false b2 []) (some ⟨g2, k2, none⟩) n2 n2 none 0 0 := ((h2.itv 2 (by omega) (T := fun _ => True) trivial).more).more
  have hlt : gf < W.heap.size := (hv.lt gf rfl).2
  refine ⟨rfl, (show 3 ≤ 9223372036854775807 by decide), fun k hk => ⟨gf, 0, rfl, hlt, trivial, ?_⟩⟩
  have hk3 : k < 3 := hk
  rcases (show k = 0 ∨ k = 1 ∨ k = 2 by omega) with rfl | rfl | rfl
  · exact ⟨some ⟨g1, k1, none⟩, n1, n1, none, 0, 0, (hc 0 (by decide)).trans rfl, (hc 1 (by decide)).trans rfl, (hc 2 (by decide)).trans rfl, (hc 3 (by decide)).trans rfl, (hc 4 (by decide)).trans rfl, i1.row, i1.nil, i1.max, i1.kids⟩
  · exact ⟨some ⟨g2, k2, none⟩, n2, n2, none, 0, 0, (hc 5 (by decide)).trans rfl, (hc 6 (by decide)).trans rfl, (hc 7 (by decide)).trans rfl, (hc 8 (by decide)).trans rfl, (hc 9 (by decide)).trans rfl, i2.row, i2.nil, i2.max, i2.kids⟩
  · exact ⟨ab, nb, cb, ak, nk, ck, (hc 10 (by decide)).trans rfl, (hc 11 (by decide)).trans rfl, (hc 12 (by decide)).trans rfl, (hc 13 (by decide)).trans rfl, (hc 14 (by decide)).trans rfl, hy.row, hy.nil, hy.max, hy.kids⟩
theorem itemBytesD_agg (d : Nat) (tag : Int) (a : Option Addr) (n c : Nat) (ks : List It) (l : List Int) (w : World) (hk : Kids d w a n ks) (hl : enc 12 (boxI tag ks) = some l) :
    Calls Try.prog 23 #[.agg #[.int .i64 1, .int .i64 tag, .bool true, .slice none 0 0, .slice a n c]] w fun e w' => ∃ a' c', e = .returned (.tuple #[.slice a' l.length c', .bool true]) ∧ Own w.heap.size w' a' l.length c' l ∧ Below w.heap.size w w' := by
  refine Calls.mono (implItemBytes_any d (boxI tag ks) none 0 0 a n c w ⟨rfl, fun k hk => absurd hk (Nat.not_lt_zero _), by simp [boxI, It.body]⟩ (fun _ => rfl) (by decide) hk) ?_
  rintro e w1 ⟨hans, hb1⟩
  rcases hans with ⟨a1, n1, c1, bs, rfl, h1, ho⟩ | ⟨rfl, h1⟩
  · have e1 : bs = l := by have := h1.out; rw [hl] at this; injection this with this; exact this.symm
    subst e1
    have e2 : bs.length = n1 := ho.toRow.len
    subst e2
    exact ⟨a1, c1, rfl, ho, hb1⟩
  · have := h1.out
    rw [hl] at this
    cases this

def RSpec.free2 (S : RSpec) (i d : Nat) : Bool := (List.range S.n).all fun k => k == i || S.slot k != d || (S.pre k).contains i || (S.kill k).contains i
theorem RSpec.free2_of {S : RSpec} {i d : Nat} (h : S.free2 i d = true) {k : Nat} (hk : k < S.n) (hne : k ≠ i) (hs : S.slot k = d) : i ∈ S.pre k ∨ i ∈ S.kill k := by
  have := List.all_eq_true.1 h k (List.mem_range.2 hk)
  simpa [hne, hs] using this
theorem RI.turn {S : RSpec} {D : List Nat} {B : Nat} {w0 : World} {a0 : Act} {l : Nat → Bool} {a : Act} {w : World} (h : RI S D B w0 a0 l a w) (i d : Nat) {v : Value} {w' : World} (hpre : ∀ j ∈ S.pre i, l j = true)
    (hd : D.contains d = true) (hs : d < a0.tmps.size) (hsl : S.slot i = d) (hli : l i = false) (hne : S.free2 i d = true) (hb : Below B w0 w')
    (hst : ∀ k, k < S.n → k ≠ i → l k = true → (∀ j ∈ S.kill k, upd l i j = false) → ∀ u, S.fact k u w → S.fact k u w') (hf : S.fact i v w') : RI S D B w0 a0 (upd l i) (a.put (some d) v) w' := by
  refine ⟨h.fr.put (List.contains_iff_mem.1 hd) v, hb, fun k hk => upd_mono (h.vt k hk), fun k hk hl j hj => ?_, fun k hk hl hkill => ?_⟩
  · by_cases e : k = i
    · subst e
      exact upd_mono (hpre j hj)
    · rw [upd_ne e] at hl
      exact upd_mono (h.cl k hk hl j hj)
  · by_cases e : k = i
    · subst e
      rw [hsl, aT_put_eq (by rw [h.fr.size]; exact hs)]
      exact hf
    · rw [upd_ne e] at hl
      have hsk : S.slot k ≠ d := fun e2 => by
        rcases S.free2_of hne hk e e2 with h1 | h1
        · have := h.cl k hk hl i h1
          rw [hli] at this
          cases this
        · have := hkill i h1
          rw [upd_same] at this
          cases this
      rw [aT_put_ne (Ne.symm hsk)]
      exact hst k hk e hl hkill _ (h.fact k hk hl (fun j hj => of_upd (hkill j hj)))
theorem RI.putp {S : RSpec} {D : List Nat} {B : Nat} {w0 : World} {a0 : Act} {l : Nat → Bool} {a : Act} {w : World} (h : RI S D B w0 a0 l a w) (i d : Nat) {v : Value} {w' : World} (hpre : ∀ j ∈ S.pre i, l j = true)
    (hd : D.contains d = true) (hs : d < a0.tmps.size) (hsl : S.slot i = d) (hli : l i = false) (hne : S.free2 i d = true) (hB : B ≤ w0.heap.size)
    (hst : ∀ k, k < S.n → StB (S.fact k)) (hb : Below w.heap.size w w') (hf : S.fact i v w') : RI S D B w0 a0 (upd l i) (a.put (some d) v) w' :=
  h.turn i d hpre hd hs hsl hli hne (h.bel.trans (hb.mono (Nat.le_trans hB h.bel.size))) (fun k hk _ _ _ u hu => hst k hk _ _ _ hu hb) hf
theorem own_grownT {R : Nat} {w w' : World} {a : Option Addr} {n c : Nat} {bs : List Int} {row : Option Nat} (h : Own R w a n c bs) (hg : w.grownBy w' row) (hlt : ∀ j, row = some j → j < R) : Own R w' a n c bs :=
  ⟨ownsRow_moveX (S := fun b => R ≤ b) h.row (fun k hk => (h.row.lt k hk).1) (fun k hk e => by have := hlt k e; omega) (touchX_g hg (P := fun k => row = some k) (fun k hk => hk)), h.byte⟩
theorem KidG.grown {R : Nat} {w w' : World} {g d : Nat} {ks : List It} {row : Option Nat} (h : KidG R w g d ks) (hg : w.grownBy w' row) (hlt : ∀ j, row = some j → j < R) : KidG R w' g d ks := by
  obtain ⟨S, h1, h2⟩ := h
  exact ⟨S, h1.touch (fun k hk e => by have := hlt k e; have := (h2 k hk).1; omega) (touchX_g hg (P := fun k => row = some k) (fun k hk => hk)), fun b hb => ⟨(h2 b hb).1, Nat.lt_of_lt_of_le (h2 b hb).2 hg.size⟩⟩
theorem unT {b : Bool} (h : b = true → False) : b = false := by
  cases b with
  | false => rfl
  | true => exact (h rfl).elim
theorem opw_indexY {P : Program} {Q : Exit → Act → World → Prop} {o : Oper} {a : Act} {w : World} {K : Act → World → Prop} (t : TypeId) (x y : Nat) (ho : o.op = .indexAddr t (.tmp x) (.tmp y)) (p q : Value) (hx : aT a x = p) (hy : aT a y = q) (v : Value) (hr : (Instr.indexAt t p q).run P w = .ok v w) (h : K (a.put o.dst v) w) : o.wp P a w K Q := by
  refine opw_value v ?_ h
  have hx' : a.eval (.tmp x) = p := hx
  have hy' : a.eval (.tmp y) = q := hy
  unfold execOp
  simp [ho, hx', hy', hr]
set_option maxRecDepth 10000 in
set_option maxHeartbeats 1000000 in
theorem l2BoxC_agg (cls tag : Int) (a : Option Addr) (n c : Nat) (w : World) :
    Calls Try.prog 36 #[.int .i64 cls, .int .i64 tag, .slice a n c] w fun e w' => e = .returned (.agg #[.int .i64 cls, .int .i64 tag, .bool true, .slice none 0 0, .slice a n c]) ∧ Below w.heap.size w w' := by
  go_enter Try.func36, Try.ntmps36
  go_wp2_with fail
  try simp only [Exit.inBlock, Exit.then]
  exact bodyPost_ret (results_it rfl _ w.heap.size rfl _ _ _ _ _ _ (heap_alloc_new w _)) rfl ⟨rfl, (Below.refl _ _).alloc (Nat.le_refl _) _⟩
set_option maxRecDepth 10000 in
set_option maxHeartbeats 1000000 in
theorem l9Struct_agg (a : Option Addr) (n c : Nat) (w : World) :
    Calls Try.prog 54 #[.slice a n c] w fun e w' => e = .returned (.agg #[.int .i64 0, .int .i64 16, .bool true, .slice none 0 0, .slice a n c]) ∧ Below w.heap.size w w' := by
  have hbx := box5_below w
  have HB5 : Hid (_ = _) := box5_new w
  go_enter Try.func54, Try.ntmps54
  go_wp2_with fail
  refine (l2BoxC_agg 0 16 a n c (box5 w)).mono ?_
  rintro e w2 ⟨rfl, hb2⟩
  have h5 := below_kept HB5.out hb2
  obtain ⟨_, q0, q1, q2, q3, q4, q5, q6, q7, q8, q9⟩ := Box5.of h5
  have H5 : Hid (_ = _) := h5
  have B2 : Below w.heap.size w w2 := keepT hbx hb2
  clear h5 hb2
  go_wp2_with fail
  try simp only [Exit.inBlock, Exit.then]
  have T := put5_touch w2 w.heap.size (.int .i64 0) (.int .i64 16) (.bool true) (.slice none 0 0) (.slice a n c)
  exact bodyPost_ret (results_it rfl _ w.heap.size rfl _ _ _ _ _ _ (put5_heap H5.out _ _ _ _ _)) rfl ⟨rfl, B2.trans (T.below (Nat.le_refl _) B2.size)⟩
set_option maxRecDepth 10000 in
set_option maxHeartbeats 1000000 in
theorem l9List_agg (a : Option Addr) (n c : Nat) (w : World) :
    Calls Try.prog 37 #[.slice a n c] w fun e w' => e = .returned (.agg #[.int .i64 0, .int .i64 17, .bool true, .slice none 0 0, .slice a n c]) ∧ Below w.heap.size w w' := by
  have hbx := box5_below w
  have HB5 : Hid (_ = _) := box5_new w
  go_enter Try.func37, Try.ntmps37
  go_wp2_with fail
  refine (l2BoxC_agg 0 17 a n c (box5 w)).mono ?_
  rintro e w2 ⟨rfl, hb2⟩
  have h5 := below_kept HB5.out hb2
  obtain ⟨_, q0, q1, q2, q3, q4, q5, q6, q7, q8, q9⟩ := Box5.of h5
  have H5 : Hid (_ = _) := h5
  have B2 : Below w.heap.size w w2 := keepT hbx hb2
  clear h5 hb2
  go_wp2_with fail
  try simp only [Exit.inBlock, Exit.then]
  have T := put5_touch w2 w.heap.size (.int .i64 0) (.int .i64 17) (.bool true) (.slice none 0 0) (.slice a n c)
  exact bodyPost_ret (results_it rfl _ w.heap.size rfl _ _ _ _ _ _ (put5_heap H5.out _ _ _ _ _)) rfl ⟨rfl, B2.trans (T.below (Nat.le_refl _) B2.size)⟩
theorem Own.itv1 {B : Nat} {w : World} {a : Option Addr} {n c : Nat} {bs : List Int} (h : Own B w a n c bs) (t : Int) (hn : n ≤ 9223372036854775807) : ItV 1 (fun b => B ≤ b ∧ b < w.heap.size) w (.mk 0 t false bs []) a n c none 0 0 := ⟨h.toI, h.nil, hn, KidsI.none 0 _ _ _⟩
theorem kidG_own {B : Nat} {X : World} {a1 a2 : Option Addr} {n1 c1 n2 c2 t1 : Nat} {b1 b2 : List Int} (hB : B ≤ X.heap.size) (h1 : Own B X a1 n1 c1 b1) (h2 : Own B X a2 n2 c2 b2) (z1 : n1 ≤ 1000) (z2 : n2 ≤ 1000) : KidG B (X.alloc (.cells #[.int .i64 0, .int .i64 (t1 : Nat), .bool false, .slice a1 n1 c1, .slice none 0 0, .int .i64 0, .int .i64 2, .bool false, .slice a2 n2 c2, .slice none 0 0] 43)) X.heap.size 2 [.mk 0 (t1 : Nat) false b1 [], .mk 0 2 false b2 []] := by
  refine ⟨fun b => B ≤ b ∧ b < X.heap.size + 1, kidsI_two (S := fun b => B ≤ b ∧ b < X.heap.size) (h1.itv1 (t1 : Nat) (by omega)) (h2.itv1 2 (by omega)) (fun b hb => ⟨hb.1, by have := hb.2; omega⟩) ⟨hB, by omega⟩ rfl, fun b hb => ⟨hb.1, ?_⟩⟩
  have s : (X.alloc (.cells #[.int .i64 0, .int .i64 (t1 : Nat), .bool false, .slice a1 n1 c1, .slice none 0 0, .int .i64 0, .int .i64 2, .bool false, .slice a2 n2 c2, .slice none 0 0] 43)).heap.size = X.heap.size + 1 := by simp
  have := hb.2
  omega
theorem kidF_own3 {B : Nat} {X : World} {a1 a2 : Option Addr} {n1 c1 n2 c2 : Nat} {b1 b2 : List Int} {ks : List It} {ao : Option Addr} {n cc : Nat} (h1 : Own B X a1 n1 c1 b1) (h2 : Own B X a2 n2 c2 b2) (h3 : ListG X ao n ks) (z1 : n1 ≤ 1000) (z2 : n2 ≤ 1000) :
    KidF (X.alloc (.cells #[.int .i64 0, .int .i64 2, .bool false, .slice a1 n1 c1, .slice none 0 0, .int .i64 0, .int .i64 2, .bool false, .slice a2 n2 c2, .slice none 0 0, .int .i64 0, .int .i64 17, .bool true, .slice none 0 0, .slice ao n cc] 43)) X.heap.size [.mk 0 2 false b1 [], .mk 0 2 false b2 [], lstI ks] := by
  obtain ⟨W, hW⟩ : ∃ W, W = X.alloc (.cells #[.int .i64 0, .int .i64 2, .bool false, .slice a1 n1 c1, .slice none 0 0, .int .i64 0, .int .i64 2, .bool false, .slice a2 n2 c2, .slice none 0 0, .int .i64 0, .int .i64 17, .bool true, .slice none 0 0, .slice ao n cc] 43) := ⟨_, rfl⟩
  have hb : Below X.heap.size X W := by rw [hW]; exact (Below.refl _ _).alloc (Nat.le_refl _) _
  have hc : W.heap[X.heap.size]? = some (.cells #[.int .i64 0, .int .i64 2, .bool false, .slice a1 n1 c1, .slice none 0 0, .int .i64 0, .int .i64 2, .bool false, .slice a2 n2 c2, .slice none 0 0, .int .i64 0, .int .i64 17, .bool true, .slice none 0 0, .slice ao n cc] 43 (0, 0)) := by rw [hW]; exact heap_alloc_new X _
  rw [← hW]
  have i1 : ItV 3 (fun _ => True) W (.mk 0 2 false b1 []) a1 n1 c1 none 0 0 := (((((h1.kept hb).itv1 2 (by omega)).mono (T := fun _ => True) (fun _ _ => trivial))).more).more
  have i2 : ItV 3 (fun _ => True) W (.mk 0 2 false b2 []) a2 n2 c2 none 0 0 := (((((h2.kept hb).itv1 2 (by omega)).mono (T := fun _ => True) (fun _ _ => trivial))).more).more
  have i3 : ItV 3 (fun _ => True) W (lstI ks) none 0 0 ao n cc := (h3.kept hb).itv
  have hlt : X.heap.size < W.heap.size := (Array.getElem?_eq_some_iff.1 hc).1
  have hq : ∀ j, W.cell? ⟨X.heap.size, j, none⟩ = _ := fun j => cell_of_row _ _ j _ _ (0, 0) hc
  refine ⟨rfl, (show 3 ≤ 9223372036854775807 by decide), fun k hk => ⟨X.heap.size, 0, rfl, hlt, trivial, ?_⟩⟩
  have hk3 : k < 3 := hk
  rcases (show k = 0 ∨ k = 1 ∨ k = 2 by omega) with rfl | rfl | rfl
  · exact ⟨a1, n1, c1, none, 0, 0, (hq 0).trans rfl, (hq 1).trans rfl, (hq 2).trans rfl, (hq 3).trans rfl, (hq 4).trans rfl, i1.row, i1.nil, i1.max, i1.kids⟩
  · exact ⟨a2, n2, c2, none, 0, 0, (hq 5).trans rfl, (hq 6).trans rfl, (hq 7).trans rfl, (hq 8).trans rfl, (hq 9).trans rfl, i2.row, i2.nil, i2.max, i2.kids⟩
  · exact ⟨none, 0, 0, ao, n, cc, (hq 10).trans rfl, (hq 11).trans rfl, (hq 12).trans rfl, (hq 13).trans rfl, (hq 14).trans rfl, i3.row, i3.nil, i3.max, i3.kids⟩
theorem l2BytesF_agg (d : Nat) (tag : Int) (a : Option Addr) (n c : Nat) (ks : List It) (l : List Int) (w : World) (hk : Kids d w a n ks) (hl : enc 12 (boxI tag ks) = some l) :
    Calls Try.prog 34 #[.agg #[.int .i64 1, .int .i64 tag, .bool true, .slice none 0 0, .slice a n c]] w fun e w' => ∃ a' c', e = .returned (.slice a' l.length c') ∧ Own w.heap.size w' a' l.length c' l ∧ Below w.heap.size w w' :=
  specBytes_all d 12 (boxI tag ks) l none 0 0 a n c w hl ⟨rfl, fun k hk => absurd hk (Nat.not_lt_zero _), by simp [boxI, It.body]⟩ (fun _ => rfl) hk
theorem ownItR_empty (d : Nat) (w : World) : OwnItR d w.heap.size (w.alloc (.cells #[] 43)) (some ⟨w.heap.size, 0, none⟩) 0 0 [] := by
  have hrow : (w.alloc (.cells #[] 43)).ownsRow 0 43 5 (.slice (some ⟨w.heap.size, 0, none⟩) 0 0) 0 [] := ⟨rfl, .inr ⟨w.heap.size, 0, #[], rfl, Nat.zero_le _, heap_alloc_new w _, Nat.le_refl _, by decide, rfl, rfl⟩⟩
  exact ⟨⟨rfl, by decide, ⟨[], hrow, fun k hk => absurd hk (Nat.not_lt_zero _)⟩, fun b hb hc => hc.2.2 hb⟩, fun b hb => Nat.le_of_eq (by injection hb)⟩

/-- An item as a value, what hangs on it in blocks of our own from B on. -/
structure ItG (B d : Nat) (w : World) (x : It) (ab : Option Addr) (nb cb : Nat) (ak : Option Addr) (nk ck : Nat) : Prop where
  it : ItV d (fun b => B ≤ b ∧ b < w.heap.size) w x ab nb cb ak nk ck
theorem ItG.kept {B d : Nat} {w w' : World} {x : It} {ab : Option Addr} {nb cb : Nat} {ak : Option Addr} {nk ck : Nat} (h : ItG B d w x ab nb cb ak nk ck) (hb : Below w.heap.size w w') : ItG B d w' x ab nb cb ak nk ck := ⟨(h.it.kept hb).mono (fun b hs => ⟨hs.1, Nat.lt_of_lt_of_le hs.2 hb.size⟩)⟩
theorem ItG.touched {B d gb : Nat} {w w' : World} {x : It} {ab : Option Addr} {nb cb : Nat} {ak : Option Addr} {nk ck : Nat} (h : ItG B d w x ab nb cb ak nk ck) (ht : Touch gb (gb + 1) w w') (hlt : gb < B) : ItG B d w' x ab nb cb ak nk ck := ⟨(h.it.touch (fun b hs e => by have := hs.1; omega) ht.toX).mono (fun b hs => ⟨hs.1, Nat.lt_of_lt_of_le hs.2 ht.size⟩)⟩
theorem ItG.mono {B B' d : Nat} {w : World} {x : It} {ab : Option Addr} {nb cb : Nat} {ak : Option Addr} {nk ck : Nat} (h : ItG B d w x ab nb cb ak nk ck) (hB : B' ≤ B) : ItG B' d w x ab nb cb ak nk ck := ⟨h.it.mono (fun b hs => ⟨Nat.le_trans hB hs.1, hs.2⟩)⟩
theorem ItG.more {B d : Nat} {w : World} {x : It} {ab : Option Addr} {nb cb : Nat} {ak : Option Addr} {nk ck : Nat} (h : ItG B d w x ab nb cb ak nk ck) : ItG B (d + 1) w x ab nb cb ak nk ck := ⟨h.it.more⟩
theorem RowG.itg {B : Nat} {w : World} {g k n : Nat} {bs : List Int} (h : RowG B w g k n bs) (t : Int) (hn : n ≤ 1000) : ItG B 1 w (.mk 0 t false bs []) (some ⟨g, k, none⟩) n n none 0 0 := by
  refine ⟨⟨⟨h.row.row, fun x hx h0 => ?_⟩, fun e => (by cases e), by omega, KidsI.none 0 _ _ _⟩⟩
  have e : x.block = g := h.row.lt x hx h0
  rw [e]
  exact ⟨h.ge, h.blk h0⟩
theorem Own.itg {B : Nat} {w : World} {a : Option Addr} {n c : Nat} {bs : List Int} (h : Own B w a n c bs) (t : Int) (hn : n ≤ 1000) : ItG B 1 w (.mk 0 t false bs []) a n c none 0 0 := ⟨h.itv1 t (by omega)⟩
theorem KidG.itg {B : Nat} {w : World} {g d ck : Nat} {ks : List It} (h : KidG B w g d ks) (cls tag : Int) : ItG B d w (.mk cls tag true [] ks) none 0 0 (some ⟨g, 0, none⟩) ks.length ck := by
  obtain ⟨S, h1, h2⟩ := h
  exact ⟨⟨⟨⟨rfl, fun j hj => absurd hj (Nat.not_lt_zero _), by simp [It.body]⟩, fun x hx => by cases hx⟩, fun _ => rfl, by decide, h1.mono h2⟩⟩
/-- The kids of a list. -/
structure ListH (B d : Nat) (w : World) (ao : Option Addr) (n : Nat) (ks : List It) : Prop where
  kids : KidsI d (fun b => B ≤ b ∧ b < w.heap.size) w ao n ks
theorem ListH.kept {B d : Nat} {w w' : World} {ao : Option Addr} {n : Nat} {ks : List It} (h : ListH B d w ao n ks) (hb : Below w.heap.size w w') : ListH B d w' ao n ks := ⟨(h.kids.touch (P := fun _ => False) (fun _ _ h => h) (TouchX.of_below hb)).mono (fun b hs => ⟨hs.1, Nat.lt_of_lt_of_le hs.2 hb.size⟩)⟩
theorem ListH.touched {B d gb : Nat} {w w' : World} {ao : Option Addr} {n : Nat} {ks : List It} (h : ListH B d w ao n ks) (ht : Touch gb (gb + 1) w w') (hlt : gb < B) : ListH B d w' ao n ks := ⟨(h.kids.touch (fun b hs e => by have := hs.1; omega) ht.toX).mono (fun b hs => ⟨hs.1, Nat.lt_of_lt_of_le hs.2 ht.size⟩)⟩
theorem ListH.mono {B B' d : Nat} {w : World} {ao : Option Addr} {n : Nat} {ks : List It} (h : ListH B d w ao n ks) (hB : B' ≤ B) : ListH B' d w ao n ks := ⟨h.kids.mono (fun b hs => ⟨Nat.le_trans hB hs.1, hs.2⟩)⟩
theorem ListH.itg {B d : Nat} {w : World} {ao : Option Addr} {n co : Nat} {ks : List It} (h : ListH B d w ao n ks) : ItG B d w (lstI ks) none 0 0 ao n co := ⟨⟨⟨⟨rfl, fun j hj => absurd hj (Nat.not_lt_zero _), by simp [lstI, It.body]⟩, fun x hx => by cases hx⟩, fun _ => rfl, by decide, h.kids⟩⟩
theorem kidsI_n2 {d : Nat} {S : Nat → Prop} {X : World} {x1 x2 : It} {a1 : Option Addr} {n1 c1 : Nat} {k1 : Option Addr} {m1 e1 : Nat} {a2 : Option Addr} {n2 c2 : Nat} {k2 : Option Addr} {m2 e2 : Nat} (h1 : ItV d S X x1 a1 n1 c1 k1 m1 e1) (h2 : ItV d S X x2 a2 n2 c2 k2 m2 e2) {T : Nat → Prop} (hs : ∀ b, S b → T b) (hT : T X.heap.size) {W : World} {t : Nat} (hW : W = X.alloc (.cells #[.int .i64 x1.cls, .int .i64 x1.tag, .bool x1.cons, .slice a1 n1 c1, .slice k1 m1 e1, .int .i64 x2.cls, .int .i64 x2.tag, .bool x2.cons, .slice a2 n2 c2, .slice k2 m2 e2] t)) : KidsI (d + 1) T W (some ⟨X.heap.size, 0, none⟩) 2 [x1, x2] := by
  subst hW
  have hb : Below X.heap.size X (X.alloc (.cells #[.int .i64 x1.cls, .int .i64 x1.tag, .bool x1.cons, .slice a1 n1 c1, .slice k1 m1 e1, .int .i64 x2.cls, .int .i64 x2.tag, .bool x2.cons, .slice a2 n2 c2, .slice k2 m2 e2] t)) := (Below.refl _ _).alloc (Nat.le_refl _) _
  have hc := fun j => cell_of_row _ X.heap.size j _ t (0, 0) (heap_alloc_new X (.cells #[.int .i64 x1.cls, .int .i64 x1.tag, .bool x1.cons, .slice a1 n1 c1, .slice k1 m1 e1, .int .i64 x2.cls, .int .i64 x2.tag, .bool x2.cons, .slice a2 n2 c2, .slice k2 m2 e2] t))
  have g1 := (h1.kept hb).mono hs
  have g2 := (h2.kept hb).mono hs
  refine ⟨rfl, by decide, fun k hk => ⟨X.heap.size, 0, rfl, by simp, hT, ?_⟩⟩
  rcases (show k = 0 ∨ k = 1 by omega) with rfl | rfl
  · exact ⟨a1, n1, c1, k1, m1, e1, (hc 0).trans rfl, (hc 1).trans rfl, (hc 2).trans rfl, (hc 3).trans rfl, (hc 4).trans rfl, g1.row, g1.nil, g1.max, g1.kids⟩
  · exact ⟨a2, n2, c2, k2, m2, e2, (hc 5).trans rfl, (hc 6).trans rfl, (hc 7).trans rfl, (hc 8).trans rfl, (hc 9).trans rfl, g2.row, g2.nil, g2.max, g2.kids⟩
theorem kidG_n2 {B d : Nat} {X : World} {x1 x2 : It} {a1 : Option Addr} {n1 c1 : Nat} {k1 : Option Addr} {m1 e1 : Nat} {a2 : Option Addr} {n2 c2 : Nat} {k2 : Option Addr} {m2 e2 : Nat} {t : Nat} (hB : B ≤ X.heap.size) (h1 : ItG B d X x1 a1 n1 c1 k1 m1 e1) (h2 : ItG B d X x2 a2 n2 c2 k2 m2 e2) : KidG B (X.alloc (.cells #[.int .i64 x1.cls, .int .i64 x1.tag, .bool x1.cons, .slice a1 n1 c1, .slice k1 m1 e1, .int .i64 x2.cls, .int .i64 x2.tag, .bool x2.cons, .slice a2 n2 c2, .slice k2 m2 e2] t)) X.heap.size (d + 1) [x1, x2] := by
  refine ⟨fun b => B ≤ b ∧ b < X.heap.size + 1, kidsI_n2 (S := fun b => B ≤ b ∧ b < X.heap.size) h1.it h2.it (fun b hb => ⟨hb.1, by have := hb.2; omega⟩) ⟨hB, by omega⟩ rfl, fun b hb => ⟨hb.1, ?_⟩⟩
  have s : (X.alloc (.cells #[.int .i64 x1.cls, .int .i64 x1.tag, .bool x1.cons, .slice a1 n1 c1, .slice k1 m1 e1, .int .i64 x2.cls, .int .i64 x2.tag, .bool x2.cons, .slice a2 n2 c2, .slice k2 m2 e2] t)).heap.size = X.heap.size + 1 := by simp
  have := hb.2
  omega
theorem kidsI_n3 {d : Nat} {S : Nat → Prop} {X : World} {x1 x2 x3 : It} {a1 : Option Addr} {n1 c1 : Nat} {k1 : Option Addr} {m1 e1 : Nat} {a2 : Option Addr} {n2 c2 : Nat} {k2 : Option Addr} {m2 e2 : Nat} {a3 : Option Addr} {n3 c3 : Nat} {k3 : Option Addr} {m3 e3 : Nat} (h1 : ItV d S X x1 a1 n1 c1 k1 m1 e1) (h2 : ItV d S X x2 a2 n2 c2 k2 m2 e2) (h3 : ItV d S X x3 a3 n3 c3 k3 m3 e3) {T : Nat → Prop} (hs : ∀ b, S b → T b) (hT : T X.heap.size) {W : World} {t : Nat} (hW : W = X.alloc (.cells #[.int .i64 x1.cls, .int .i64 x1.tag, .bool x1.cons, .slice a1 n1 c1, .slice k1 m1 e1, .int .i64 x2.cls, .int .i64 x2.tag, .bool x2.cons, .slice a2 n2 c2, .slice k2 m2 e2, .int .i64 x3.cls, .int .i64 x3.tag, .bool x3.cons, .slice a3 n3 c3, .slice k3 m3 e3] t)) : KidsI (d + 1) T W (some ⟨X.heap.size, 0, none⟩) 3 [x1, x2, x3] := by
  subst hW
  have hb : Below X.heap.size X (X.alloc (.cells #[.int .i64 x1.cls, .int .i64 x1.tag, .bool x1.cons, .slice a1 n1 c1, .slice k1 m1 e1, .int .i64 x2.cls, .int .i64 x2.tag, .bool x2.cons, .slice a2 n2 c2, .slice k2 m2 e2, .int .i64 x3.cls, .int .i64 x3.tag, .bool x3.cons, .slice a3 n3 c3, .slice k3 m3 e3] t)) := (Below.refl _ _).alloc (Nat.le_refl _) _
  have hc := fun j => cell_of_row _ X.heap.size j _ t (0, 0) (heap_alloc_new X (.cells #[.int .i64 x1.cls, .int .i64 x1.tag, .bool x1.cons, .slice a1 n1 c1, .slice k1 m1 e1, .int .i64 x2.cls, .int .i64 x2.tag, .bool x2.cons, .slice a2 n2 c2, .slice k2 m2 e2, .int .i64 x3.cls, .int .i64 x3.tag, .bool x3.cons, .slice a3 n3 c3, .slice k3 m3 e3] t))
  have g1 := (h1.kept hb).mono hs
  have g2 := (h2.kept hb).mono hs
  have g3 := (h3.kept hb).mono hs
  refine ⟨rfl, by decide, fun k hk => ⟨X.heap.size, 0, rfl, by simp, hT, ?_⟩⟩
  rcases (show k = 0 ∨ k = 1 ∨ k = 2 by omega) with rfl | rfl | rfl
  · exact ⟨a1, n1, c1, k1, m1, e1, (hc 0).trans rfl, (hc 1).trans rfl, (hc 2).trans rfl, (hc 3).trans rfl, (hc 4).trans rfl, g1.row, g1.nil, g1.max, g1.kids⟩
  · exact ⟨a2, n2, c2, k2, m2, e2, (hc 5).trans rfl, (hc 6).trans rfl, (hc 7).trans rfl, (hc 8).trans rfl, (hc 9).trans rfl, g2.row, g2.nil, g2.max, g2.kids⟩
  · exact ⟨a3, n3, c3, k3, m3, e3, (hc 10).trans rfl, (hc 11).trans rfl, (hc 12).trans rfl, (hc 13).trans rfl, (hc 14).trans rfl, g3.row, g3.nil, g3.max, g3.kids⟩
theorem kidG_n3 {B d : Nat} {X : World} {x1 x2 x3 : It} {a1 : Option Addr} {n1 c1 : Nat} {k1 : Option Addr} {m1 e1 : Nat} {a2 : Option Addr} {n2 c2 : Nat} {k2 : Option Addr} {m2 e2 : Nat} {a3 : Option Addr} {n3 c3 : Nat} {k3 : Option Addr} {m3 e3 : Nat} {t : Nat} (hB : B ≤ X.heap.size) (h1 : ItG B d X x1 a1 n1 c1 k1 m1 e1) (h2 : ItG B d X x2 a2 n2 c2 k2 m2 e2) (h3 : ItG B d X x3 a3 n3 c3 k3 m3 e3) : KidG B (X.alloc (.cells #[.int .i64 x1.cls, .int .i64 x1.tag, .bool x1.cons, .slice a1 n1 c1, .slice k1 m1 e1, .int .i64 x2.cls, .int .i64 x2.tag, .bool x2.cons, .slice a2 n2 c2, .slice k2 m2 e2, .int .i64 x3.cls, .int .i64 x3.tag, .bool x3.cons, .slice a3 n3 c3, .slice k3 m3 e3] t)) X.heap.size (d + 1) [x1, x2, x3] := by
  refine ⟨fun b => B ≤ b ∧ b < X.heap.size + 1, kidsI_n3 (S := fun b => B ≤ b ∧ b < X.heap.size) h1.it h2.it h3.it (fun b hb => ⟨hb.1, by have := hb.2; omega⟩) ⟨hB, by omega⟩ rfl, fun b hb => ⟨hb.1, ?_⟩⟩
  have s : (X.alloc (.cells #[.int .i64 x1.cls, .int .i64 x1.tag, .bool x1.cons, .slice a1 n1 c1, .slice k1 m1 e1, .int .i64 x2.cls, .int .i64 x2.tag, .bool x2.cons, .slice a2 n2 c2, .slice k2 m2 e2, .int .i64 x3.cls, .int .i64 x3.tag, .bool x3.cons, .slice a3 n3 c3, .slice k3 m3 e3] t)).heap.size = X.heap.size + 1 := by simp
  have := hb.2
  omega
theorem kidsI_n4 {d : Nat} {S : Nat → Prop} {X : World} {x1 x2 x3 x4 : It} {a1 : Option Addr} {n1 c1 : Nat} {k1 : Option Addr} {m1 e1 : Nat} {a2 : Option Addr} {n2 c2 : Nat} {k2 : Option Addr} {m2 e2 : Nat} {a3 : Option Addr} {n3 c3 : Nat} {k3 : Option Addr} {m3 e3 : Nat} {a4 : Option Addr} {n4 c4 : Nat} {k4 : Option Addr} {m4 e4 : Nat} (h1 : ItV d S X x1 a1 n1 c1 k1 m1 e1) (h2 : ItV d S X x2 a2 n2 c2 k2 m2 e2) (h3 : ItV d S X x3 a3 n3 c3 k3 m3 e3) (h4 : ItV d S X x4 a4 n4 c4 k4 m4 e4) {T : Nat → Prop} (hs : ∀ b, S b → T b) (hT : T X.heap.size) {W : World} {t : Nat} (hW : W = X.alloc (.cells #[.int .i64 x1.cls, .int .i64 x1.tag, .bool x1.cons, .slice a1 n1 c1, .slice k1 m1 e1, .int .i64 x2.cls, .int .i64 x2.tag, .bool x2.cons, .slice a2 n2 c2, .slice k2 m2 e2, .int .i64 x3.cls, .int .i64 x3.tag, .bool x3.cons, .slice a3 n3 c3, .slice k3 m3 e3, .int .i64 x4.cls, .int .i64 x4.tag, .bool x4.cons, .slice a4 n4 c4, .slice k4 m4 e4] t)) : KidsI (d + 1) T W (some ⟨X.heap.size, 0, none⟩) 4 [x1, x2, x3, x4] := by
  subst hW
  have hb : Below X.heap.size X (X.alloc (.cells #[.int .i64 x1.cls, .int .i64 x1.tag, .bool x1.cons, .slice a1 n1 c1, .slice k1 m1 e1, .int .i64 x2.cls, .int .i64 x2.tag, .bool x2.cons, .slice a2 n2 c2, .slice k2 m2 e2, .int .i64 x3.cls, .int .i64 x3.tag, .bool x3.cons, .slice a3 n3 c3, .slice k3 m3 e3, .int .i64 x4.cls, .int .i64 x4.tag, .bool x4.cons, .slice a4 n4 c4, .slice k4 m4 e4] t)) := (Below.refl _ _).alloc (Nat.le_refl _) _
  have hc := fun j => cell_of_row _ X.heap.size j _ t (0, 0) (heap_alloc_new X (.cells #[.int .i64 x1.cls, .int .i64 x1.tag, .bool x1.cons, .slice a1 n1 c1, .slice k1 m1 e1, .int .i64 x2.cls, .int .i64 x2.tag, .bool x2.cons, .slice a2 n2 c2, .slice k2 m2 e2, .int .i64 x3.cls, .int .i64 x3.tag, .bool x3.cons, .slice a3 n3 c3, .slice k3 m3 e3, .int .i64 x4.cls, .int .i64 x4.tag, .bool x4.cons, .slice a4 n4 c4, .slice k4 m4 e4] t))
  have g1 := (h1.kept hb).mono hs
  have g2 := (h2.kept hb).mono hs
  have g3 := (h3.kept hb).mono hs
  have g4 := (h4.kept hb).mono hs
  refine ⟨rfl, by decide, fun k hk => ⟨X.heap.size, 0, rfl, by simp, hT, ?_⟩⟩
  rcases (show k = 0 ∨ k = 1 ∨ k = 2 ∨ k = 3 by omega) with rfl | rfl | rfl | rfl
  · exact ⟨a1, n1, c1, k1, m1, e1, (hc 0).trans rfl, (hc 1).trans rfl, (hc 2).trans rfl, (hc 3).trans rfl, (hc 4).trans rfl, g1.row, g1.nil, g1.max, g1.kids⟩
  · exact ⟨a2, n2, c2, k2, m2, e2, (hc 5).trans rfl, (hc 6).trans rfl, (hc 7).trans rfl, (hc 8).trans rfl, (hc 9).trans rfl, g2.row, g2.nil, g2.max, g2.kids⟩
  · exact ⟨a3, n3, c3, k3, m3, e3, (hc 10).trans rfl, (hc 11).trans rfl, (hc 12).trans rfl, (hc 13).trans rfl, (hc 14).trans rfl, g3.row, g3.nil, g3.max, g3.kids⟩
  · exact ⟨a4, n4, c4, k4, m4, e4, (hc 15).trans rfl, (hc 16).trans rfl, (hc 17).trans rfl, (hc 18).trans rfl, (hc 19).trans rfl, g4.row, g4.nil, g4.max, g4.kids⟩
theorem kidG_n4 {B d : Nat} {X : World} {x1 x2 x3 x4 : It} {a1 : Option Addr} {n1 c1 : Nat} {k1 : Option Addr} {m1 e1 : Nat} {a2 : Option Addr} {n2 c2 : Nat} {k2 : Option Addr} {m2 e2 : Nat} {a3 : Option Addr} {n3 c3 : Nat} {k3 : Option Addr} {m3 e3 : Nat} {a4 : Option Addr} {n4 c4 : Nat} {k4 : Option Addr} {m4 e4 : Nat} {t : Nat} (hB : B ≤ X.heap.size) (h1 : ItG B d X x1 a1 n1 c1 k1 m1 e1) (h2 : ItG B d X x2 a2 n2 c2 k2 m2 e2) (h3 : ItG B d X x3 a3 n3 c3 k3 m3 e3) (h4 : ItG B d X x4 a4 n4 c4 k4 m4 e4) : KidG B (X.alloc (.cells #[.int .i64 x1.cls, .int .i64 x1.tag, .bool x1.cons, .slice a1 n1 c1, .slice k1 m1 e1, .int .i64 x2.cls, .int .i64 x2.tag, .bool x2.cons, .slice a2 n2 c2, .slice k2 m2 e2, .int .i64 x3.cls, .int .i64 x3.tag, .bool x3.cons, .slice a3 n3 c3, .slice k3 m3 e3, .int .i64 x4.cls, .int .i64 x4.tag, .bool x4.cons, .slice a4 n4 c4, .slice k4 m4 e4] t)) X.heap.size (d + 1) [x1, x2, x3, x4] := by
  refine ⟨fun b => B ≤ b ∧ b < X.heap.size + 1, kidsI_n4 (S := fun b => B ≤ b ∧ b < X.heap.size) h1.it h2.it h3.it h4.it (fun b hb => ⟨hb.1, by have := hb.2; omega⟩) ⟨hB, by omega⟩ rfl, fun b hb => ⟨hb.1, ?_⟩⟩
  have s : (X.alloc (.cells #[.int .i64 x1.cls, .int .i64 x1.tag, .bool x1.cons, .slice a1 n1 c1, .slice k1 m1 e1, .int .i64 x2.cls, .int .i64 x2.tag, .bool x2.cons, .slice a2 n2 c2, .slice k2 m2 e2, .int .i64 x3.cls, .int .i64 x3.tag, .bool x3.cons, .slice a3 n3 c3, .slice k3 m3 e3, .int .i64 x4.cls, .int .i64 x4.tag, .bool x4.cons, .slice a4 n4 c4, .slice k4 m4 e4] t)).heap.size = X.heap.size + 1 := by simp
  have := hb.2
  omega
def W64 (n : Int) : Prop := -9223372036854775808 ≤ n ∧ n ≤ 9223372036854775807

theorem itV_up {S : Nat → Prop} {w : World} {x : It} {ab : Option Addr} {nb cb : Nat} {ak : Option Addr} {nk ck : Nat} (d : Nat) (h : ItV 1 S w x ab nb cb ak nk ck) : ItV (d + 1) S w x ab nb cb ak nk ck := by
  induction d with
  | zero => exact h
  | succ d ih => exact ih.more
def KidD (d : Nat) (w : World) (g : Nat) (ks : List It) : Prop := KidsI d (fun _ => True) w (some ⟨g, 0, none⟩) ks.length ks
theorem KidD.kept {d : Nat} {w w' : World} {g : Nat} {ks : List It} (h : KidD d w g ks) (hb : Below w.heap.size w w') : KidD d w' g ks := KidsI.touch (P := fun _ => False) h (fun _ _ h => h) (TouchX.of_below hb)
theorem KidD.kids {d : Nat} {w : World} {g : Nat} {ks : List It} (h : KidD d w g ks) : Kids d w (some ⟨g, 0, none⟩) ks.length ks := KidsI.kids h
structure OwnT (B : Nat) (w : World) (a : Option Addr) (n c : Nat) (bs : List Int) : Prop where
  own : Own B w a n c bs
theorem OwnT.kept {B : Nat} {w w' : World} {a : Option Addr} {n c : Nat} {bs : List Int} (h : OwnT B w a n c bs) (hb : Below w.heap.size w w') : OwnT B w' a n c bs := ⟨h.own.kept hb⟩
theorem OwnT.touched {B gb : Nat} {w w' : World} {a : Option Addr} {n c : Nat} {bs : List Int} (h : OwnT B w a n c bs) (ht : Touch gb (gb + 1) w w') (hlt : gb < B) : OwnT B w' a n c bs := ⟨h.own.touch5 ht (by omega)⟩
theorem KidG.kidsF {B : Nat} {w : World} {g d : Nat} {ks : List It} (h : KidG B w g d ks) : Kids d w (some ⟨g, 0, none⟩) ks.length ks := by
  obtain ⟨S, h1, _⟩ := h
  exact KidsI.kids h1
theorem ListH.grown {B d : Nat} {w w' : World} {ao : Option Addr} {n : Nat} {ks : List It} {row : Option Nat} (h : ListH B d w ao n ks) (hg : w.grownBy w' row) (hlt : ∀ j, row = some j → j < B) : ListH B d w' ao n ks :=
  ⟨(h.kids.touch (fun k hk e => by have := hlt k e; have := hk.1; omega) (touchX_g hg (P := fun k => row = some k) (fun k hk => hk))).mono (fun b hs => ⟨hs.1, Nat.lt_of_lt_of_le hs.2 hg.size⟩)⟩
theorem ItG.grown {B d : Nat} {w w' : World} {x : It} {ab : Option Addr} {nb cb : Nat} {ak : Option Addr} {nk ck : Nat} {row : Option Nat} (h : ItG B d w x ab nb cb ak nk ck) (hg : w.grownBy w' row) (hlt : ∀ j, row = some j → j < B) : ItG B d w' x ab nb cb ak nk ck :=
  ⟨(h.it.touch (fun k hk e => by have := hlt k e; have := hk.1; omega) (touchX_g hg (P := fun k => row = some k) (fun k hk => hk))).mono (fun b hs => ⟨hs.1, Nat.lt_of_lt_of_le hs.2 hg.size⟩)⟩
end Go.Proofs.Ytlcojjcgaibbiaa
