import Derived.Test.YtgbjleapaioemaaGreatMMa
import Derived.Test.YtgbjleapaioemaaGreatW2
import Derived.Deep.RegionHeldLaw
import Derived.Deep.RegionWith
import Derived.Test.YtgbjleapaioemaaGreatWApp
import Derived.Test.YtgbjleapaioemaaGreatTT4
import Derived.Test.YtgbjleapaioemaaGreatMSB
set_option linter.unusedVariables false
namespace Go.Proofs.YtgbjleapaioemaaGreat
open Go.RowKit Go.Sort

theorem blocks_apartR {w : World} {B B' e e' s s' n m : Nat} {v u : Value} {xs ys : List Value} (h : w.ownsRow B e s v n xs) (k : w.ownsRow B' e' s' u m ys) (hne : e ≠ e') : v.ownBlock = none ∨ v.ownBlock ≠ u.ownBlock := by
  rcases h.2 with ⟨rfl, _⟩ | ⟨g, cap, cur, rfl, _, hg, _⟩
  · exact .inl rfl
  · right
    rcases k.2 with ⟨rfl, _⟩ | ⟨g', cap', cur', rfl, _, hg', _⟩
    · simp [Value.ownBlock]
    · simp only [Value.ownBlock, ne_eq, Option.some.injEq]
      rintro rfl
      rw [hg] at hg'
      simp only [Option.some.injEq, Obj.cells.injEq] at hg'
      exact hne hg'.2.1
theorem owns_shapeR {w : World} {B e s n : Nat} {v : Value} {xs : List Value} (h : w.ownsRow B e s v n xs) : ∃ a c, v = .slice a n c := by
  rcases h.2 with ⟨rfl, rfl⟩ | ⟨g, cap, cur, rfl, _⟩
  · exact ⟨_, _, rfl⟩
  · exact ⟨_, _, rfl⟩
abbrev Rq := Option Addr × Nat × Nat
def rqv (q : Rq) : Value := .slice q.1 q.2.1 q.2.2
def rq0 : Rq := (none, 0, 0)
/-- A signer whose Over is empty. -/
structure SgP where
  ky : Int
  at2 : Int
  sg : List Int
deriving Inhabited
structure CellsG (w : World) (b o : Nat) (a : Option Addr) (n c : Nat) (x : SgP) : Prop where
  c0 : w.cell? ⟨b, o, none⟩ = some (.int .u64 x.ky)
  c1 : w.cell? ⟨b, o + 1, none⟩ = some (.int .i64 x.at2)
  c2 : w.cell? ⟨b, o + 2, none⟩ = some (.slice a n c)
  c3 : w.cell? ⟨b, o + 3, none⟩ = some (.slice none 0 0)
theorem CellsG.of {w w' : World} {b o : Nat} {a : Option Addr} {n c : Nat} {x : SgP} (h : CellsG w b o a n c x) (hc : ∀ i, w'.cell? ⟨b, i, none⟩ = w.cell? ⟨b, i, none⟩) : CellsG w' b o a n c x :=
  ⟨(hc _).trans h.c0, (hc _).trans h.c1, (hc _).trans h.c2, (hc _).trans h.c3⟩
/-- The slice at a reads as these. -/
structure Sgs (w : World) (a : Option Addr) (n : Nat) (xs : List SgP) : Prop where
  len : xs.length = n
  max : n ≤ 9223372036854775807
  get : ∀ k, k < n → ∃ b off a1 n1 c1, a = some ⟨b, off, none⟩ ∧ b < w.heap.size ∧ CellsG w b (off + k * 4) a1 n1 c1 (xs.getD k default) ∧ Row w a1 n1 (xs.getD k default).sg ∧ n1 ≤ 9223372036854775807
abbrev Gq := Rq × SgP
def sg4 (p : Gq) : List Value := [.int .u64 p.2.ky, .int .i64 p.2.at2, rqv p.1, .slice none 0 0]
def gq0 : Gq := (rq0, default)
theorem flatG_at : ∀ (ps : List Gq) (j i : Nat), j < ps.length → i < 4 → (ps.flatMap sg4)[j * 4 + i]? = (sg4 (ps.getD j gq0))[i]?
  | [], j, i, hj, hi => absurd hj (Nat.not_lt_zero _)
  | p :: ps, 0, i, hj, hi => by
    rw [List.flatMap_cons, List.getElem?_append_left (by simp [sg4]; omega)]
    simp
  | p :: ps, j + 1, i, hj, hi => by
    have h4 : (sg4 p).length = 4 := rfl
    rw [List.flatMap_cons, List.getElem?_append_right (by rw [h4]; omega), h4]
    rw [show (j + 1) * 4 + i - 4 = j * 4 + i by omega, flatG_at ps j i (by simpa using hj) hi]
    simp
theorem flatG_len (ps : List Gq) : (ps.flatMap sg4).length = ps.length * 4 := by
  induction ps with
  | nil => rfl
  | cons p ps ih => rw [List.flatMap_cons, List.length_append, ih]; simp [sg4]; omega
/-- Stamps of our own, each signature in a block of its own. -/
structure OwnG (B : Nat) (w : World) (a : Option Addr) (n cap : Nat) (ps : List Gq) : Prop where
  row : w.ownsRow B 43 4 (.slice a n cap) n (ps.flatMap sg4)
  len : ps.length = n
  each : ∀ j, j < n → Own B w (ps.getD j gq0).1.1 (ps.getD j gq0).1.2.1 (ps.getD j gq0).1.2.2 (ps.getD j gq0).2.sg
  apart : ∀ i j l, i < n → j < n → (rqv (ps.getD i gq0).1).ownBlock = some l → (rqv (ps.getD j gq0).1).ownBlock = some l → i = j
  rng : ∀ j, j < n → U64 (ps.getD j gq0).2.ky
theorem ownG_none (B : Nat) (w : World) : OwnG B w none 0 0 [] := ⟨World.ownsRow_nil _ _ _ _, rfl, fun _ hj => absurd hj (Nat.not_lt_zero _), fun _ _ _ hi => absurd hi (Nat.not_lt_zero _), fun _ hj => absurd hj (Nat.not_lt_zero _)⟩
theorem OwnG.kept {B : Nat} {w w' : World} {a : Option Addr} {n cap : Nat} {ps : List Gq} (h : OwnG B w a n cap ps) (hb : Below w.heap.size w w') : OwnG B w' a n cap ps :=
  ⟨ownsRow_below h.row hb, h.len, fun j hj => (h.each j hj).kept hb, h.apart, h.rng⟩
theorem OwnG.mono {B B' : Nat} {w : World} {a : Option Addr} {n cap : Nat} {ps : List Gq} (h : OwnG B w a n cap ps) (hB : B' ≤ B) : OwnG B' w a n cap ps :=
  ⟨⟨h.row.1, by rcases h.row.2 with h | ⟨g, cap, cur, hv, hb, r⟩; exact .inl h; exact .inr ⟨g, cap, cur, hv, by omega, r⟩⟩, h.len, fun j hj => (h.each j hj).mono hB, h.apart, h.rng⟩
theorem OwnG.cells {B : Nat} {w : World} {a : Option Addr} {n cap : Nat} {ps : List Gq} (h : OwnG B w a n cap ps) {j : Nat} (hj : j < n) : ∃ b, a = some ⟨b, 0, none⟩ ∧ b < w.heap.size ∧ CellsG w b (0 + j * 4) (ps.getD j gq0).1.1 (ps.getD j gq0).1.2.1 (ps.getD j gq0).1.2.2 (ps.getD j gq0).2 := by
  have hl := h.len
  have hfl := flatG_len ps
  rcases h.row.2 with ⟨_, h0⟩ | ⟨g, cap', cur, hv, hb, hg, _⟩
  · omega
  · simp only [Value.slice.injEq] at hv
    obtain ⟨rfl, _, rfl⟩ := hv
    refine ⟨g, rfl, (Array.getElem?_eq_some_iff.1 hg).1, ?_⟩
    have hc : ∀ i, i < 4 → w.cell? ⟨g, j * 4 + i, none⟩ = (sg4 (ps.getD j gq0))[i]? := fun i hi => by
      rw [h.row.cellAt (j * 4 + i) (by omega)]
      exact flatG_at ps j i (by omega) hi
    rw [Nat.zero_add]
    exact ⟨hc 0 (by decide), hc 1 (by decide), hc 2 (by decide), hc 3 (by decide)⟩
def gsOf (ps : List Gq) : List SgP := ps.map Prod.snd
theorem gsOf_at (ps : List Gq) (j : Nat) (hj : j < ps.length) : (gsOf ps).getD j default = (ps.getD j gq0).2 := by simp [gsOf, hj]
theorem getG_more (ps : List Gq) (p : Gq) (j : Nat) (hj : j < ps.length) : (ps ++ [p]).getD j gq0 = ps.getD j gq0 := by simp [List.getElem?_append, hj]
theorem getG_last (ps : List Gq) (p : Gq) : (ps ++ [p]).getD ps.length gq0 = p := by simp
/-- A stamp more. -/
theorem OwnG.appended {B : Nat} {w w' : World} {a a' : Option Addr} {n cap cap' : Nat} {ps : List Gq} {p : Gq} (h : OwnG B w a n cap ps) (ho : Own B w p.1.1 p.1.2.1 p.1.2.2 p.2.sg) (hu : U64 p.2.ky)
    (hap : ∀ j l, j < n → (rqv (ps.getD j gq0).1).ownBlock = some l → (rqv p.1).ownBlock = some l → False)
    (hv : w'.ownsRow B 43 4 (.slice a' (n + 1) cap') (n + 1) ((ps ++ [p]).flatMap sg4)) (hg : w.grownBy w' (Value.slice a n cap).ownBlock) : OwnG B w' a' (n + 1) cap' (ps ++ [p]) := by
  have hl := h.len
  have gq : ∀ j, j < n → (ps ++ [p]).getD j gq0 = ps.getD j gq0 := fun j hj => getG_more ps p j (by omega)
  have gn : (ps ++ [p]).getD n gq0 = p := by rw [← hl]; exact getG_last ps p
  refine ⟨hv, by simp [hl], fun j hj => ?_, fun i j l hi hj hil hjl => ?_, fun j hj => ?_⟩
  · by_cases e : j < n
    · rw [gq j e]
      exact ⟨(h.each j e).row.kept hg (blocks_apartR (h.each j e).row h.row (by decide)), (h.each j e).byte⟩
    · obtain rfl : j = n := by omega
      rw [gn]
      exact ⟨ho.row.kept hg (blocks_apartR ho.row h.row (by decide)), ho.byte⟩
  · by_cases ei : i < n
    · rw [gq i ei] at hil
      by_cases ej : j < n
      · rw [gq j ej] at hjl
        exact h.apart i j l ei ej hil hjl
      · obtain rfl : j = n := by omega
        rw [gn] at hjl
        exact (hap i l ei hil hjl).elim
    · obtain rfl : i = n := by omega
      rw [gn] at hil
      by_cases ej : j < i
      · rw [gq j ej] at hjl
        exact (hap j l ej hjl hil).elim
      · omega
  · by_cases e : j < n
    · rw [gq j e]; exact h.rng j e
    · obtain rfl : j = n := by omega
      rw [gn]; exact hu
/-- One signature is another. -/
def putGg (p : Gq) (bs : List Int) : Gq := (p.1, { p.2 with sg := bs })
theorem sg4_put (p : Gq) (bs : List Int) : sg4 (putGg p bs) = sg4 p := rfl
theorem flatG_set : ∀ (ps : List Gq) (k : Nat) (bs : List Int), (ps.set k (putGg (ps.getD k gq0) bs)).flatMap sg4 = ps.flatMap sg4
  | [], k, bs => by simp
  | p :: ps, 0, bs => by simp [sg4_put]
  | p :: ps, k + 1, bs => by
    have := flatG_set ps k bs
    simp only [List.getD_cons_succ, List.set_cons_succ, List.flatMap_cons]
    rw [this]
theorem setG_at (ps : List Gq) (k j : Nat) (p : Gq) (hj : j < ps.length) : (ps.set k p).getD j gq0 = if j = k then p else ps.getD j gq0 := by
  by_cases e : j = k
  · subst e
    simp [hj]
  · rw [if_neg e]
    simp only [List.getD_eq_getElem?_getD]
    rw [List.getElem?_set_ne (fun h => e h.symm)]
theorem OwnG.turned {B : Nat} {w w' : World} {a : Option Addr} {n cap : Nat} {ps : List Gq} (h : OwnG B w a n cap ps) {k : Nat} (hk : k < n) {bs : List Int} (ho : Own B w' (ps.getD k gq0).1.1 (ps.getD k gq0).1.2.1 (ps.getD k gq0).1.2.2 bs) (hg : w.grownBy w' (rqv (ps.getD k gq0).1).ownBlock) : OwnG B w' a n cap (ps.set k (putGg (ps.getD k gq0) bs)) := by
  have hl := h.len
  have hat : ∀ j, j < n → ((ps.set k (putGg (ps.getD k gq0) bs)).getD j gq0).1 = (ps.getD j gq0).1 := fun j hj => by
    rw [setG_at ps k j _ (by omega)]
    by_cases e : j = k
    · rw [if_pos e, e]; rfl
    · rw [if_neg e]
  refine ⟨by rw [flatG_set]; exact h.row.kept hg (blocks_apartR h.row (h.each k hk).row (by decide)), by simp [hl], fun j hj => ?_, fun i j l hi hj h1 h2 => h.apart i j l hi hj (by rw [← hat i hi]; exact h1) (by rw [← hat j hj]; exact h2), fun j hj => ?_⟩
  · by_cases e : j = k
    · subst e
      rw [setG_at ps j j _ (by omega), if_pos rfl]
      exact ho
    · rw [setG_at ps k j _ (by omega), if_neg e]
      refine ⟨(h.each j hj).row.kept hg ?_, (h.each j hj).byte⟩
      cases hb : (rqv (ps.getD j gq0).1).ownBlock with
      | none => exact .inl hb
      | some l =>
        right
        intro h2
        have h3 : (rqv (ps.getD k gq0).1).ownBlock = some l := by rw [← h2]; exact hb
        exact e (h.apart j k l hj hk hb h3)
  · by_cases e : j = k
    · subst e
      rw [setG_at ps j j _ (by omega), if_pos rfl]
      exact h.rng j hj
    · rw [setG_at ps k j _ (by omega), if_neg e]
      exact h.rng j hj

/-- A stamp with numbers of our own, from k on. -/
def mkGq (k : Nat) (p : Gq) : Gq := (p.1, ⟨(k : Nat), ((k + 1 : Nat) : Int), marks (k + 2) p.1.2.1⟩)
def mgTo : List Gq → Nat → Nat → List Gq
  | [], _, _ => []
  | p :: ps, 0, _ => p :: ps
  | p :: ps, i + 1, k => mkGq k p :: mgTo ps i (k + 2 + p.1.2.1)
def mgNx : List Gq → Nat → Nat → Nat
  | [], _, k => k
  | _ :: _, 0, k => k
  | p :: ps, i + 1, k => mgNx ps i (k + 2 + p.1.2.1)
theorem mgTo_zero (ps : List Gq) (k : Nat) : mgTo ps 0 k = ps := by cases ps <;> rfl
theorem mgNx_zero (ps : List Gq) (k : Nat) : mgNx ps 0 k = k := by cases ps <;> rfl
theorem mgTo_len : ∀ (ps : List Gq) (i k : Nat), (mgTo ps i k).length = ps.length
  | [], _, _ => rfl
  | _ :: _, 0, _ => rfl
  | p :: ps, i + 1, k => by simp [mgTo, mgTo_len ps i]
theorem mgTo_next : ∀ (ps : List Gq) (i k : Nat), i < ps.length → mgTo ps (i + 1) k = (mgTo ps i k).set i (mkGq (mgNx ps i k) (ps.getD i gq0)) ∧ mgNx ps (i + 1) k = mgNx ps i k + 2 + (ps.getD i gq0).1.2.1 ∧ (mgTo ps i k).getD i gq0 = ps.getD i gq0
  | [], _, _, h => absurd h (Nat.not_lt_zero _)
  | p :: ps, 0, k, _ => by simp [mgTo, mgNx, mgTo_zero, mgNx_zero]
  | p :: ps, i + 1, k, h => by
    obtain ⟨h1, h2, h3⟩ := mgTo_next ps i (k + 2 + p.1.2.1) (by simpa using h)
    refine ⟨?_, ?_, ?_⟩
    · show mkGq k p :: mgTo ps (i + 1) (k + 2 + p.1.2.1) = _
      rw [h1]
      simp [mgTo, mgNx]
    · show mgNx ps (i + 1) (k + 2 + p.1.2.1) = _
      rw [h2]
      simp [mgNx]
    · simp only [mgTo, List.getD_cons_succ]
      exact h3
theorem mgTo_fst : ∀ (ps : List Gq) (i k j : Nat), ((mgTo ps i k).getD j gq0).1 = (ps.getD j gq0).1
  | [], _, _, _ => rfl
  | _ :: _, 0, _, _ => rfl
  | p :: ps, i + 1, k, 0 => rfl
  | p :: ps, i + 1, k, j + 1 => by simp only [mgTo, List.getD_cons_succ]; exact mgTo_fst ps i _ j
/-- The blocks of a row of stamps lie between lo and hi. -/
structure InG (lo hi : Nat) (a : Option Addr) (n cap : Nat) (ps : List Gq) : Prop where
  row : ∀ j, (Value.slice a n cap).ownBlock = some j → lo ≤ j ∧ j < hi
  each : ∀ i, i < n → ∀ j, (rqv (ps.getD i gq0).1).ownBlock = some j → lo ≤ j ∧ j < hi
theorem flatG_set2 : ∀ (ps : List Gq) (i : Nat) (u0 u1 : Int), i < ps.length → (ps.set i ((ps.getD i gq0).1, ⟨u0, u1, (ps.getD i gq0).2.sg⟩)).flatMap sg4 = ((ps.flatMap sg4).set (i * 4) (.int .u64 u0)).set (i * 4 + 1) (.int .i64 u1)
  | [], _, _, _, h => absurd h (Nat.not_lt_zero _)
  | p :: ps, 0, u0, u1, _ => by simp [sg4]
  | p :: ps, i + 1, u0, u1, h => by
    have ih := flatG_set2 ps i u0 u1 (by simpa using h)
    have e : (sg4 p).length = 4 := rfl
    have hs : ∀ (l : List Value) (j : Nat) (v : Value), (sg4 p ++ l).set ((i + 1) * 4 + j) v = sg4 p ++ l.set (i * 4 + j) v := fun l j v => by
      rw [List.set_append_right _ _ (by rw [e]; omega), e, show (i + 1) * 4 + j - 4 = i * 4 + j by omega]
    have hs0 := fun l v => hs l 0 v
    simp only [Nat.add_zero] at hs0
    simp only [List.getD_cons_succ, List.set_cons_succ, List.flatMap_cons]
    rw [ih, hs0, hs]
def put2g (w : World) (g o : Nat) (u0 u1 : Int) : World := (w.setCell ⟨g, o, none⟩ (.int .u64 u0)).setCell ⟨g, o + 1, none⟩ (.int .i64 u1)
theorem OwnG.numbered {B : Nat} {w : World} {g n cap : Nat} {ps : List Gq} (h : OwnG B w (some ⟨g, 0, none⟩) n cap ps) {i : Nat} (hi : i < n) (u0 u1 : Int) (h1 : U64 u0) : OwnG B (put2g w g (i * 4) u0 u1) (some ⟨g, 0, none⟩) n cap (ps.set i ((ps.getD i gq0).1, ⟨u0, u1, (ps.getD i gq0).2.sg⟩)) ∧ w.grownBy (put2g w g (i * 4) u0 u1) (some g) := by
  have hl := h.len
  have s1 := h.row.stored (i * 4) (.int .u64 u0)
  have s2 := s1.1.stored (i * 4 + 1) (.int .i64 u1)
  have hg : w.grownBy (put2g w g (i * 4) u0 u1) (some g) := s1.2.trans s2.2
  refine ⟨⟨by rw [flatG_set2 ps i u0 u1 (by omega)]; exact s2.1, by simp [hl], fun j hj => ?_, fun x y l hx hy e1 e2 => ?_, fun j hj => ?_⟩, hg⟩
  · have ho : Own B (put2g w g (i * 4) u0 u1) (ps.getD j gq0).1.1 (ps.getD j gq0).1.2.1 (ps.getD j gq0).1.2.2 (ps.getD j gq0).2.sg := ⟨(h.each j hj).row.kept hg (blocks_apartR (h.each j hj).row h.row (by decide)), (h.each j hj).byte⟩
    rw [setG_at ps i j _ (by omega)]
    by_cases e : j = i
    · subst e; rw [if_pos rfl]; exact ho
    · rw [if_neg e]; exact ho
  · have hat : ∀ j, j < n → ((ps.set i ((ps.getD i gq0).1, ⟨u0, u1, (ps.getD i gq0).2.sg⟩)).getD j gq0).1 = (ps.getD j gq0).1 := fun j hj => by
      rw [setG_at ps i j _ (by omega)]
      by_cases e : j = i
      · rw [if_pos e, e]
      · rw [if_neg e]
    exact h.apart x y l hx hy (by rw [← hat x hx]; exact e1) (by rw [← hat y hy]; exact e2)
  · rw [setG_at ps i j _ (by omega)]
    by_cases e : j = i
    · rw [if_pos e]; exact h1
    · rw [if_neg e]; exact h.rng j hj

theorem OwnG.touched {B : Nat} {w w' : World} {a : Option Addr} {n cap g t : Nat} {ps : List Gq} {cs : Array Value} {fr : Nat × Nat} (h : OwnG B w a n cap ps) (hg : w.heap[g]? = some (.cells cs t fr)) (h1 : t ≠ 43) (h2 : t ≠ 5) (ht : Touch g (g + 1) w w') : OwnG B w' a n cap ps :=
  ⟨ownsRow_box h.row hg h1 ht, h.len, fun j hj => ⟨ownsRow_box (h.each j hj).row hg h2 ht, (h.each j hj).byte⟩, h.apart, h.rng⟩
theorem ownsRow_touchIn {B e k n lo hi p q : Nat} {w w' : World} {v : Value} {xs : List Value} (h : w.ownsRow B e k v n xs) (hI : ∀ j, v.ownBlock = some j → p ≤ j ∧ j < q) (hd : q ≤ lo ∨ hi ≤ p) (ht : Touch lo hi w w') : w'.ownsRow B e k v n xs := by
  refine ⟨h.1, ?_⟩
  rcases h.2 with h0 | ⟨g', cap, cur, hv, hb, hh, rest⟩
  · exact .inl h0
  · have h1 := hI g' (by rw [hv]; rfl)
    exact .inr ⟨g', cap, cur, hv, hb, (ht.block g' (Array.getElem?_eq_some_iff.1 hh).1 (by omega)).trans hh, rest⟩
theorem OwnG.touchIn {B n c lo hi p q : Nat} {w w' : World} {a : Option Addr} {ps : List Gq} (h : OwnG B w a n c ps) (hI : InG p q a n c ps) (hd : q ≤ lo ∨ hi ≤ p) (ht : Touch lo hi w w') : OwnG B w' a n c ps :=
  ⟨ownsRow_touchIn h.row hI.row hd ht, h.len, fun j hj => ⟨ownsRow_touchIn (h.each j hj).row (hI.each j hj) hd ht, (h.each j hj).byte⟩, h.apart, h.rng⟩
theorem OwnG.inG {B n c : Nat} {w : World} {a : Option Addr} {ps : List Gq} (h : OwnG B w a n c ps) : InG B w.heap.size a n c ps :=
  ⟨fun j hj => ⟨(h.row.lt j hj).1, (h.row.lt j hj).2⟩, fun i hi j hj => ⟨((h.each i hi).row.lt j hj).1, ((h.each i hi).row.lt j hj).2⟩⟩
theorem OwnG.sgs {B n c : Nat} {w : World} {a : Option Addr} {ps : List Gq} {xs : List SgP} (h : OwnG B w a n c ps) (he : gsOf ps = xs) (hn : n ≤ 9223372036854775807) (hs : ∀ j, j < n → (xs.getD j default).sg.length ≤ 1048576) : Sgs w a n xs := by
  subst he
  have hl := h.len
  refine ⟨by simp [gsOf, hl], hn, fun k hk => ?_⟩
  obtain ⟨b, rfl, hb, hc⟩ := h.cells hk
  have hs1 := hs k hk
  rw [gsOf_at ps k (by omega)] at hs1 ⊢
  have hr := (h.each k hk).toRow
  exact ⟨b, 0, _, _, _, rfl, hb, hc, hr, by rw [hr.len] at hs1; omega⟩
theorem OwnG.lens {B n c : Nat} {w : World} {a : Option Addr} {ps : List Gq} {xs : List SgP} (h : OwnG B w a n c ps) (he : gsOf ps = xs) (hs : ∀ j, j < n → (xs.getD j default).sg.length ≤ 1048576) : ∀ j, j < n → (ps.getD j gq0).1.2.1 ≤ 1048576 := fun j hj => by
  have h1 := hs j hj
  have hl := h.len
  rw [← he, gsOf_at ps j (by omega), (h.each j hj).toRow.len] at h1
  exact h1

end Go.Proofs.YtgbjleapaioemaaGreat

set_option linter.unusedVariables false
namespace Go.Proofs.YtgbjleapaioemaaGreat
open Go.RowKit Go.Sort

set_option maxRecDepth 10000 in
set_option maxHeartbeats 1000000 in
theorem eqSignerS_nil (w : World) : Calls Tryz.prog 23 #[.slice none 0 0, .slice none 0 0] w fun e w' => e = .returned (.bool true) ∧ w' = w := by
  go_enter Tryz.func23, Tryz.ntmps23
  go_wp2
  go_loopw [5] (fun i wr => i = .int .i64 0 ∧ wr = w) (fun _ _ => 0)
  case atStart => exact ⟨rfl, rfl⟩
  case round =>
    obtain ⟨rfl, rfl⟩ := hrel
    go_wp2
    go_ret
    exact ⟨rfl, rfl⟩

set_option maxRecDepth 10000 in
set_option maxHeartbeats 1000000 in
theorem markSignerS_nil (k : Int) (w : World) : Calls Tryz.prog 25 #[.slice none 0 0, .int .i64 k] w fun e w' => e = .returned (.int .i64 k) ∧ w' = w := by
  go_enter Tryz.func25, Tryz.ntmps25
  go_wp2
  go_loopw [1, 5] (fun q i wr => i = .int .i64 0 ∧ q = .int .i64 k ∧ wr = w) (fun _ _ _ => 0)
  case atStart => exact ⟨rfl, rfl, rfl⟩
  case round =>
    obtain ⟨rfl, rfl, rfl⟩ := hrel
    go_wp2
    go_ret
    exact ⟨rfl, rfl⟩

set_option maxRecDepth 10000 in
set_option maxHeartbeats 1000000 in
theorem heldSignerS_nil (k : Int) (w : World) : Calls Tryz.prog 27 #[.slice none 0 0, .int .i64 k] w fun e w' => e = .returned (.int .i64 k) ∧ w' = w := by
  go_enter Tryz.func27, Tryz.ntmps27
  go_wp2
  go_loopw [1, 5] (fun q i wr => i = .int .i64 0 ∧ q = .int .i64 k ∧ wr = w) (fun _ _ _ => 0)
  case atStart => exact ⟨rfl, rfl, rfl⟩
  case round =>
    obtain ⟨rfl, rfl, rfl⟩ := hrel
    go_wp2
    go_ret
    exact ⟨rfl, rfl⟩

set_option maxRecDepth 10000 in
set_option maxHeartbeats 2000000 in
theorem eqSigner_same (x : SgP) (a b : Option Addr) (n ca cb : Nat) (w : World) (h : Row w a n x.sg) (h2 : Row w b n x.sg) (hn : n ≤ maxLen) :
    Calls Tryz.prog 36 #[.agg #[.int .u64 x.ky, .int .i64 x.at2, .slice a n ca, .slice none 0 0], .agg #[.int .u64 x.ky, .int .i64 x.at2, .slice b n cb, .slice none 0 0]] w fun e w' => e = .returned (.bool true) ∧ Below w.heap.size w w' := by
  obtain ⟨w1, hw1⟩ : ∃ w1, w1 = (w.alloc (.cells #[.int .u64 x.ky, .int .i64 x.at2, .slice a n ca, .slice none 0 0] 43)).alloc (.cells #[.int .u64 x.ky, .int .i64 x.at2, .slice b n cb, .slice none 0 0] 43) := ⟨_, rfl⟩
  have hbb : Below w.heap.size w w1 := by rw [hw1]; exact ((Below.refl _ _).alloc (Nat.le_refl _) _).alloc (by simp) _
  have HA : Hid (Row w1 a n x.sg) := h.kept hbb
  have HB : Hid (Row w1 b n x.sg) := h2.kept hbb
  have s1 : (w.alloc (.cells #[.int .u64 x.ky, .int .i64 x.at2, .slice a n ca, .slice none 0 0] 43)).heap.size = w.heap.size + 1 := by simp
  have B0 : w1.heap[w.heap.size]? = some (.cells #[.int .u64 x.ky, .int .i64 x.at2, .slice a n ca, .slice none 0 0] 43 (0, 0)) := by rw [hw1]; exact (alloc_oldT _ _ _ (by simp)).trans (heap_alloc_new w _)
  have B1 : w1.heap[w.heap.size + 1]? = some (.cells #[.int .u64 x.ky, .int .i64 x.at2, .slice b n cb, .slice none 0 0] 43 (0, 0)) := by rw [hw1, ← s1]; exact heap_alloc_new _ _
  have x0 : w1.cell? ⟨w.heap.size, 0, none⟩ = some (.int .u64 x.ky) := (cell_of_row _ _ 0 _ 43 (0, 0) B0).trans rfl
  have y0 : w1.cell? ⟨w.heap.size + 1, 0, none⟩ = some (.int .u64 x.ky) := (cell_of_row _ _ 0 _ 43 (0, 0) B1).trans rfl
  have x1 : w1.cell? ⟨w.heap.size, 1, none⟩ = some (.int .i64 x.at2) := (cell_of_row _ _ 1 _ 43 (0, 0) B0).trans rfl
  have y1 : w1.cell? ⟨w.heap.size + 1, 1, none⟩ = some (.int .i64 x.at2) := (cell_of_row _ _ 1 _ 43 (0, 0) B1).trans rfl
  have x2 : w1.cell? ⟨w.heap.size, 2, none⟩ = some (.slice a n ca) := (cell_of_row _ _ 2 _ 43 (0, 0) B0).trans rfl
  have y2 : w1.cell? ⟨w.heap.size + 1, 2, none⟩ = some (.slice b n cb) := (cell_of_row _ _ 2 _ 43 (0, 0) B1).trans rfl
  have x3 : w1.cell? ⟨w.heap.size, 3, none⟩ = some (.slice none 0 0) := (cell_of_row _ _ 3 _ 43 (0, 0) B0).trans rfl
  have y3 : w1.cell? ⟨w.heap.size + 1, 3, none⟩ = some (.slice none 0 0) := (cell_of_row _ _ 3 _ 43 (0, 0) B1).trans rfl
  have z0 : (x.ky != x.ky) = false := by simp
  have z1 : (x.at2 != x.at2) = false := by simp
  have HC : Hid (∀ W, Below w1.heap.size w1 W → W.cell? ⟨w.heap.size, 3, none⟩ = some (.slice none 0 0) ∧ W.cell? ⟨w.heap.size + 1, 3, none⟩ = some (.slice none 0 0)) := fun W hW => ⟨(hW.cell (p := ⟨w.heap.size, 3, none⟩) (Array.getElem?_eq_some_iff.1 B0).1).trans x3, (hW.cell (p := ⟨w.heap.size + 1, 3, none⟩) (Array.getElem?_eq_some_iff.1 B1).1).trans y3⟩
  have HW : Hid (_ = _) := hw1
  clear hw1 s1 B0 B1 h h2 x3 y3
  go_enter Tryz.func36, Tryz.ntmps36
  go_upto_region 1 with fail
  rw [← HW.out]
  clear HW
  go_wp2_with fail
  refine (eqByteS_any a b n n ca cb x.sg x.sg _ HA.out HB.out hn hn).mono ?_
  rintro e w2 ⟨rfl, hb2⟩
  rw [decide_eq_true (rfl : x.sg = x.sg)]
  clear x0 x1 x2 y0 y1 y2
  obtain ⟨x3, y3⟩ := HC.out w2 hb2
  go_wp2_with fail
  refine (eqSignerS_nil _).mono ?_
  rintro e w3 ⟨rfl, hw3⟩
  subst hw3
  go_wp2
  go_ret
  exact ⟨rfl, keepT hbb hb2⟩

set_option maxRecDepth 10000 in
set_option maxHeartbeats 4000000 in
theorem eqSignerS_same (a b : Option Addr) (n ca cb : Nat) (xs : List SgP) (w : World) (h : Sgs w a n xs) (h2 : Sgs w b n xs) :
    Calls Tryz.prog 23 #[.slice a n ca, .slice b n cb] w fun e w' => e = .returned (.bool true) ∧ Below w.heap.size w w' := by
  have HK : Hid (Sgs w a n xs) := h
  have HK2 : Hid (Sgs w b n xs) := h2
  have hn := h.max
  clear h h2
  go_enter Tryz.func23, Tryz.ntmps23
  go_wp2
  go_loopw [5] (fun i wr => ∃ k : Nat, k ≤ n ∧ i = .int .i64 k ∧ Below w.heap.size w wr) (fun i _ => n - (intOf i).toNat)
  case atStart => exact ⟨0, Nat.zero_le _, rfl, Below.refl _ _⟩
  case round =>
    obtain ⟨k, hk, rfl, hbr⟩ := hrel
    by_cases hkn : k < n
    · obtain ⟨b1, off1, p1, n1, d1, rfl, hl1, hc1, hp1, hm1⟩ := HK.out.get k hkn
      obtain ⟨b2, off2, q1, m1, e1, rfl, hl2, hc2, hp2, hm2⟩ := HK2.out.get k hkn
      obtain ⟨y, hy⟩ : ∃ y, y = xs.getD k default := ⟨_, rfl⟩
      rw [← hy] at hc1 hc2 hp1 hp2
      clear hy
      obtain rfl : m1 = n1 := by rw [← hp2.len, ← hp1.len]
      obtain ⟨c0, c1, c2, c3⟩ := hc1.of (w' := wr) (fun i => hbr.cell (p := ⟨b1, i, none⟩) hl1)
      obtain ⟨u0, u1, u2, u3⟩ := hc2.of (w' := wr) (fun i => hbr.cell (p := ⟨b2, i, none⟩) hl2)
      have HP1 : Hid (Row wr.drew p1 m1 y.sg) := hp1.kept hbr.drew
      have HP2 : Hid (Row wr.drew q1 m1 y.sg) := hp2.kept hbr.drew
      have hkni : (k : Int) < (n : Int) := by omega
      have hsz := hbr.size
      clear hc1 hc2 hp1 hp2
      go_wp2_with fail
      go_region_with (go_at_call 36; refine (eqSigner_same y p1 q1 m1 d1 e1 _ HP1.out HP2.out (by unfold maxLen; omega)).mono ?_; rintro e w2 ⟨rfl, hb2⟩)
      all_goals
        have b5 : Below w.heap.size w w2 := hbr.drew.trans (hb2.mono hsz)
        go_wp2
        go_roundw
        case rel => exact ⟨k + 1, by omega, by go_num, b5⟩
        case measure => simp [intOf]; omega
    · go_wp2
      go_ret
      exact ⟨rfl, hbr⟩

set_option maxRecDepth 10000 in
set_option maxHeartbeats 400000 in
theorem markByteS_wide (B : Nat) (a : Option Addr) (n cap k : Nat) (bs : List Int) (w : World) (h : Own B w a n cap bs) (hn : n ≤ 1000000000) (hk : k ≤ 1000000000000000) :
    Calls Tryz.prog 12 #[.slice a n cap, .int .i64 k] w fun e w' => e = .returned (.int .i64 (k + n : Nat)) ∧ Own B w' a n cap (marks k n) ∧ w.grownBy w' (Value.slice a n cap).ownBlock := by
  have HL : Hid (bs.length = n) := h.length
  have H0 : Hid (Own B w a n cap bs) := h
  clear h
  go_enter Tryz.func12, Tryz.ntmps12
  go_wp2
  go_loopw [1, 5] (fun kk i wr => ∃ j : Nat, j ≤ n ∧ i = .int .i64 j ∧ kk = .int .i64 (k + j : Nat) ∧ Own B wr a n cap (mkd bs k j) ∧ w.grownBy wr (Value.slice a n cap).ownBlock) (fun _ i _ => n - (intOf i).toNat)
  case atStart => exact ⟨0, Nat.zero_le _, rfl, rfl, by rw [mkd_zero]; exact H0.out, World.grownBy.refl _ _⟩
  case round =>
    obtain ⟨j, hj, rfl, rfl, hor, hgr⟩ := hrel
    by_cases hlt : j < n
    · obtain ⟨g, rfl⟩ := hor.shape (by omega)
      have hfr : wr.frozen? ⟨g, j, none⟩ = false := hor.row.frozenAt j
      obtain ⟨y, hy⟩ : ∃ y, wr.cell? ⟨g, j, none⟩ = some y := ⟨_, (hor.row.cellAt j (by omega)).trans (List.getElem?_eq_getElem (by simp [mkd_len bs k j (by have := HL.out; omega), HL.out]; exact hlt))⟩
      have hs := hor.store j (((k + j : Nat) : Int) % 256) (by omega)
      rw [mkd_set bs k j (by have := HL.out; omega)] at hs
      have hg2 := grown_trans hgr (hor.row.stored j (.int .u8 (((k + j : Nat) : Int) % 256))).2
      clear hor hgr
      have e0 : ((k + j : Nat) : Int) = (k : Int) + (j : Int) := by omega
      have HS : Hid (Own B (wr.setCell ⟨g, j, none⟩ (.int .u8 (((k + j : Nat) : Int) % 256))) (some ⟨g, 0, none⟩) n cap (mkd bs k (j + 1))) := hs
      have HG : Hid (w.grownBy (wr.setCell ⟨g, j, none⟩ (.int .u8 (((k + j : Nat) : Int) % 256))) (Value.slice (some ⟨g, 0, none⟩) n cap).ownBlock) := hg2
      clear hs hg2 e0
      go_wp2
      go_roundw
      case rel => exact ⟨j + 1, by omega, by go_num, by go_num, by have := HS.out; rw [Int.natCast_add] at this; exact this, by have := HG.out; rw [Int.natCast_add] at this; exact this⟩
      case measure => simp [intOf]; omega
    · have hjn : j = n := by omega
      subst hjn
      go_wp2
      go_ret
      exact ⟨rfl, by rw [← HL.out, mkd_all, HL.out] at hor; exact hor, hgr⟩

theorem markByteS_intw (B : Nat) (a : Option Addr) (n cap : Nat) (k : Int) (bs : List Int) (w : World) (h : Own B w a n cap bs) (hn : n ≤ 1000000000) (hk0 : 0 ≤ k) (hk : k ≤ 1000000000000000) :
    Calls Tryz.prog 12 #[.slice a n cap, .int .i64 k] w fun e w' => e = .returned (.int .i64 (k + n)) ∧ Own B w' a n cap (marks k.toNat n) ∧ w.grownBy w' (Value.slice a n cap).ownBlock := by
  obtain ⟨m, rfl⟩ := Int.eq_ofNat_of_zero_le hk0
  refine (markByteS_wide B a n cap m bs w h hn (by omega)).mono ?_
  rintro e w' ⟨rfl, h1, h2⟩
  exact ⟨by rw [Int.natCast_add], by rw [Int.toNat_natCast]; exact h1, h2⟩

theorem mgNx_bd (ps : List Gq) (n k : Nat) (hl : ps.length = n) (hs : ∀ j, j < n → (ps.getD j gq0).1.2.1 ≤ 1048576) : ∀ i, i ≤ n → mgNx ps i k ≤ k + 1048578 * i
  | 0, _ => by rw [mgNx_zero]; omega
  | i + 1, hi => by
    have h1 := mgNx_bd ps n k hl hs i (by omega)
    have h2 := (mgTo_next ps i k (by omega)).2.1
    have h3 := hs i (by omega)
    rw [h2]
    omega
theorem touch_gR {w w' : World} {row : Option Nat} {lo hi : Nat} (hg : w.grownBy w' row) (hr : ∀ k, row = some k → lo ≤ k ∧ k < hi) : Touch lo hi w w' :=
  ⟨hg.os, hg.tape, hg.output, hg.size, fun k hk ho => hg.block k hk (fun e => by have := hr k e.symm; omega)⟩
theorem touch_rR (lo hi : Nat) (w : World) : Touch lo hi w w := ⟨rfl, rfl, rfl, Nat.le_refl _, fun _ _ _ => rfl⟩

/-- Only blocks of which P holds have turned. -/
structure TouchP (P : Nat → Prop) (w w' : World) : Prop where
  os : w'.os = w.os
  tape : w'.tape = w.tape
  output : w'.output = w.output
  size : w.heap.size ≤ w'.heap.size
  block : ∀ k, k < w.heap.size → ¬ P k → w'.heap[k]? = w.heap[k]?
theorem TouchP.trans {P : Nat → Prop} {a b c : World} (h : TouchP P a b) (k : TouchP P b c) : TouchP P a c :=
  ⟨k.os.trans h.os, k.tape.trans h.tape, k.output.trans h.output, Nat.le_trans h.size k.size, fun i hi hp => (k.block i (Nat.lt_of_lt_of_le hi h.size) hp).trans (h.block i hi hp)⟩
theorem TouchP.mono {P Q : Nat → Prop} {w w' : World} (h : TouchP P w w') (hpq : ∀ k, P k → Q k) : TouchP Q w w' := ⟨h.os, h.tape, h.output, h.size, fun k hk hn => h.block k hk (fun hp => hn (hpq k hp))⟩
theorem TouchP.touch {P : Nat → Prop} {lo hi : Nat} {w w' : World} (h : TouchP P w w') (hpq : ∀ k, P k → lo ≤ k ∧ k < hi) : Touch lo hi w w' := ⟨h.os, h.tape, h.output, h.size, fun k hk hn => h.block k hk (fun hp => by have := hpq k hp; omega)⟩
theorem touchP_g {w w' : World} {row : Option Nat} {P : Nat → Prop} (hg : w.grownBy w' row) (hr : ∀ k, row = some k → P k) : TouchP P w w' :=
  ⟨hg.os, hg.tape, hg.output, hg.size, fun k hk ho => hg.block k hk (fun e => ho (hr k e.symm))⟩
theorem touchP_refl (P : Nat → Prop) (w : World) : TouchP P w w := ⟨rfl, rfl, rfl, Nat.le_refl _, fun _ _ _ => rfl⟩
theorem TouchP.of_below {P : Nat → Prop} {w w' : World} (h : Below w.heap.size w w') : TouchP P w w' := ⟨h.os, h.tape, h.output, h.size, fun k hk _ => h.block k hk⟩
structure InGP (P : Nat → Prop) (a : Option Addr) (n cap : Nat) (ps : List Gq) : Prop where
  row : ∀ j, (Value.slice a n cap).ownBlock = some j → P j
  each : ∀ i, i < n → ∀ j, (rqv (ps.getD i gq0).1).ownBlock = some j → P j

set_option maxRecDepth 10000 in
set_option maxHeartbeats 4000000 in
theorem markSignerS_any (B : Nat) (P : Nat → Prop) (a : Option Addr) (n cap k : Nat) (ps : List Gq) (w : World) (h : OwnG B w a n cap ps) (hn : n ≤ 1048576) (hs : ∀ j, j < n → (ps.getD j gq0).1.2.1 ≤ 1048576) (hk : k ≤ 10000000) (hin : InGP P a n cap ps) :
    Calls Tryz.prog 25 #[.slice a n cap, .int .i64 k] w fun e w' => e = .returned (.int .i64 (mgNx ps n k : Nat)) ∧ OwnG B w' a n cap (mgTo ps n k) ∧ TouchP P w w' := by
  have HO : Hid (OwnG B w a n cap ps) := h
  have HL : Hid (ps.length = n) := h.len
  have HS : Hid (∀ j, j < n → (ps.getD j gq0).1.2.1 ≤ 1048576) := hs
  have HIN : Hid (InGP P a n cap ps) := hin
  clear h hs hin
  go_enter Tryz.func25, Tryz.ntmps25
  go_wp2
  go_loopw [1, 5] (fun q i wr => ∃ (j : Nat), j ≤ n ∧ i = .int .i64 j ∧ q = .int .i64 (mgNx ps j k : Nat) ∧ Hid (OwnG B wr a n cap (mgTo ps j k)) ∧ TouchP P w wr) (fun _ i _ => n - (intOf i).toNat)
  case atStart => exact ⟨0, Nat.zero_le _, rfl, by rw [mgNx_zero], by show OwnG _ _ _ _ _ _; rw [mgTo_zero]; exact HO.out, touchP_refl _ _⟩
  case round =>
    obtain ⟨j, hj, rfl, rfl, HR, htr⟩ := hrel
    by_cases hlt : j < n
    · obtain ⟨p, hp⟩ : ∃ p, p = ps.getD j gq0 := ⟨_, rfl⟩
      obtain ⟨hN1, hN2, hN3⟩ := mgTo_next ps j k (by rw [HL.out]; exact hlt)
      have hkb := mgNx_bd ps n k HL.out HS.out j hj
      have hsj := HS.out j hlt
      have hej := HIN.out.each j hlt
      obtain ⟨kk, hkk⟩ : ∃ kk, kk = mgNx ps j k := ⟨_, rfl⟩
      rw [← hkk, ← hp] at hN1 hN2
      rw [← hp] at hN3 hsj hej
      rw [← hkk] at hkb
      rw [← hkk]
      clear hkk hp
      obtain ⟨⟨a1, n1, d1⟩, x⟩ := p
      obtain ⟨g, rfl, hgl, hcl⟩ := HR.out.cells hlt
      have hlen : j < (mgTo ps j k).length := by rw [mgTo_len, HL.out]; exact hlt
      have f0 := HR.out.row.frozenAt (j * 4)
      have f1 := HR.out.row.frozenAt (j * 4 + 1)
      rw [Nat.zero_add, hN3] at hcl
      obtain ⟨c0, c1, c2, c3⟩ := hcl
      have hjn : (j : Int) < (n : Int) := by omega
      have v1 : IntKind.u64.wrap (kk : Int) = (kk : Int) := by rw [IntKind.wrap_u64]; omega
      obtain ⟨w4, hw4⟩ : ∃ w4, w4 = put2g wr g (j * 4) (kk : Int) ((kk : Int) + 1) := ⟨_, rfl⟩
      obtain ⟨h4, hg4⟩ := HR.out.numbered hlt (kk : Int) ((kk : Int) + 1) (by constructor <;> omega)
      rw [← hw4] at h4 hg4
      rw [hN3] at h4
      have HW : Hid (w4 = (wr.setCell ⟨g, j * 4, none⟩ (.int .u64 (kk : Int))).setCell ⟨g, j * 4 + 1, none⟩ (.int .i64 ((kk : Int) + 1))) := hw4
      obtain ⟨ps4, hps4⟩ : ∃ ps4, ps4 = (mgTo ps j k).set j ((a1, n1, d1), ⟨(kk : Int), (kk : Int) + 1, x.sg⟩) := ⟨_, rfl⟩
      have hat4 : ps4.getD j gq0 = ((a1, n1, d1), ⟨(kk : Int), (kk : Int) + 1, x.sg⟩) := by rw [hps4, setG_at _ _ _ _ hlen, if_pos rfl]
      have h4' : OwnG B w4 (some ⟨g, 0, none⟩) n cap ps4 := by rw [hps4]; exact h4
      have HO4 : Hid (Own B w4 a1 n1 d1 x.sg) := by have h1 := h4'.each j hlt; rw [hat4] at h1; exact h1
      have hc4 : w4.cell? ⟨g, j * 4 + 2, none⟩ = some (.slice a1 n1 d1) := by
        obtain ⟨g', hg', _, h1⟩ := h4'.cells hlt
        cases hg'
        rw [Nat.zero_add, hat4] at h1
        obtain ⟨_, _, h2, _⟩ := h1
        exact h2
      have H4 : Hid (OwnG B w4 (some ⟨g, 0, none⟩) n cap ps4) := h4'
      have HE4 : Hid (ps4.set j (putGg (ps4.getD j gq0) (marks (kk + 2) n1)) = mgTo ps (j + 1) k) := by
        show _ = _
        rw [hN1, hat4, hps4, List.set_set]
        simp [mkGq, putGg]
      have HA4 : Hid (ps4.getD j gq0 = ((a1, n1, d1), ⟨(kk : Int), (kk : Int) + 1, x.sg⟩)) := hat4
      have ht4 : TouchP P w w4 := htr.trans (touchP_g hg4 (fun l hl => HIN.out.row l hl))
      have HN2 : Hid (mgNx ps (j + 1) k = kk + 2 + n1) := hN2
      have HEJ : Hid (∀ l, (Value.slice a1 n1 d1).ownBlock = some l → P l) := hej
      have hs1 : n1 ≤ 1048576 := hsj
      clear h4 h4' hg4 hps4 hat4 hw4 hN1 hN2 hN3 hej hsj c2 c3
      go_upto_region 8 with fail
      rw [← HW.out]
      clear HW c0 c1 f0 f1
      go_wp2_with fail
      refine (markByteS_intw B a1 n1 d1 ((kk : Int) + 1 + 1) x.sg _ HO4.out (by omega) (by omega) (by omega)).mono ?_
      rintro e w5 ⟨rfl, ho5, hg5⟩
      have hk4 : ((kk : Int) + 1 + 1).toNat = kk + 2 := by omega
      rw [hk4] at ho5
      have H5 : Hid (OwnG B w5 (some ⟨g, 0, none⟩) n cap (mgTo ps (j + 1) k)) := by
        show OwnG _ _ _ _ _ _
        rw [← HE4.out]
        exact H4.out.turned hlt (by rw [HA4.out]; exact ho5) (by rw [HA4.out]; exact hg5)
      have ht5 : TouchP P w w5 := ht4.trans (touchP_g hg5 HEJ.out)
      have hc5 : w5.cell? ⟨g, j * 4 + 3, none⟩ = some (.slice none 0 0) := by
        obtain ⟨g', hg', _, h1⟩ := H5.out.cells hlt
        cases hg'
        rw [Nat.zero_add] at h1
        exact h1.c3
      clear ho5 hg5 hc4
      go_wp2_with fail
      refine (markSignerS_nil _ _).mono ?_
      rintro e w6 ⟨rfl, hw6⟩
      have hw6 := hw6.symm
      subst hw6
      clear hc5
      go_wp2
      go_roundw
      case rel => exact ⟨j + 1, by omega, by go_num, by rw [HN2.out]; simp [Int.add_assoc], H5, ht5⟩
      case measure => simp [intOf]; omega
    · obtain rfl : j = n := by omega
      go_wp2
      go_ret
      exact ⟨rfl, HR.out, htr⟩


theorem mgTo_at : ∀ (ps : List Gq) (i k j : Nat), j < i → j < ps.length → (mgTo ps i k).getD j gq0 = mkGq (mgNx ps j k) (ps.getD j gq0)
  | [], _, _, _, _, h => absurd h (Nat.not_lt_zero _)
  | p :: ps, 0, _, _, h, _ => absurd h (Nat.not_lt_zero _)
  | p :: ps, i + 1, k, 0, _, _ => rfl
  | p :: ps, i + 1, k, j + 1, h, h2 => by
    simp only [mgTo, List.getD_cons_succ]
    rw [mgTo_at ps i _ j (by omega) (by simpa using h2)]
    rfl

set_option maxRecDepth 10000 in
set_option maxHeartbeats 4000000 in
theorem heldSignerS_any (B : Nat) (a : Option Addr) (n cap k : Nat) (ps : List Gq) (w : World) (hl : ps.length = n) (h : OwnG B w a n cap (mgTo ps n k)) (hn : n ≤ 100) (hs : ∀ j, j < n → (ps.getD j gq0).1.2.1 ≤ 1048576) (hk : k ≤ 10000000) :
    Calls Tryz.prog 27 #[.slice a n cap, .int .i64 k] w fun e w' => e = .returned (.int .i64 (mgNx ps n k : Nat)) ∧ Below w.heap.size w w' := by
  have HR : Hid (OwnG B w a n cap (mgTo ps n k)) := h
  have HL : Hid (ps.length = n) := hl
  have HS : Hid (∀ j, j < n → (ps.getD j gq0).1.2.1 ≤ 1048576) := hs
  clear h hs hl
  go_enter Tryz.func27, Tryz.ntmps27
  go_wp2
  go_loopw [1, 5] (fun q i wr => ∃ (j : Nat), j ≤ n ∧ i = .int .i64 j ∧ q = .int .i64 (mgNx ps j k : Nat) ∧ wr = w) (fun _ i _ => n - (intOf i).toNat)
  case atStart => exact ⟨0, Nat.zero_le _, rfl, by rw [mgNx_zero], rfl⟩
  case round =>
    obtain ⟨j, hj, rfl, rfl, hwr⟩ := hrel
    subst hwr
    by_cases hlt : j < n
    · have hN2 := (mgTo_next ps j k (by rw [HL.out]; exact hlt)).2.1
      have hA := mgTo_at ps n k j hlt (by rw [HL.out]; exact hlt)
      have hkb := mgNx_bd ps n k HL.out HS.out j hj
      have hsj := HS.out j hlt
      obtain ⟨kk, hkk⟩ : ∃ kk, kk = mgNx ps j k := ⟨_, rfl⟩
      obtain ⟨p, hp⟩ : ∃ p, p = ps.getD j gq0 := ⟨_, rfl⟩
      rw [← hkk, ← hp] at hN2 hA
      rw [← hp] at hsj
      rw [← hkk] at hkb
      rw [← hkk]
      clear hkk hp
      obtain ⟨⟨a1, n1, d1⟩, x⟩ := p
      obtain ⟨g, rfl, hgl, hcl⟩ := HR.out.cells hlt
      have ho := (HR.out.each j hlt).toRow
      rw [hA] at ho
      rw [Nat.zero_add, hA] at hcl
      obtain ⟨c0, c1, c2, c3⟩ := hcl
      have HO : Hid (Row wr a1 n1 (marks ((kk : Int) + 1 + 1).toNat n1)) := by
        show Row _ _ _ _
        rw [show ((kk : Int) + 1 + 1).toNat = kk + 2 by omega]
        exact ho
      have y0 : wr.cell? ⟨g, j * 4, none⟩ = some (.int .u64 (kk : Int)) := c0
      have y1 : wr.cell? ⟨g, j * 4 + 1, none⟩ = some (.int .i64 ((kk : Int) + 1)) := c1
      have y2 : wr.cell? ⟨g, j * 4 + 2, none⟩ = some (.slice a1 n1 d1) := c2
      have y3 : wr.cell? ⟨g, j * 4 + 3, none⟩ = some (.slice none 0 0) := c3
      have hjn : (j : Int) < (n : Int) := by omega
      have v1 : IntKind.u64.wrap (kk : Int) = (kk : Int) := by rw [IntKind.wrap_u64]; omega
      have HN2 : Hid (mgNx ps (j + 1) k = kk + 2 + n1) := hN2
      have hs1 : n1 ≤ 1048576 := hsj
      have hz : ¬ ((kk : Int) + 1 + 1 + (n1 : Int) < 0) := by omega
      clear ho c0 c1 c2 c3 hN2 hA hsj
      go_wp2_with fail
      refine (heldByteS_int a1 n1 d1 ((kk : Int) + 1 + 1) _ HO.out (by omega) (by omega) (by omega)).mono ?_
      rintro e w5 ⟨rfl, hw5⟩
      subst hw5
      go_wp2_with fail
      refine (heldSignerS_nil _ _).mono ?_
      rintro e w6 ⟨rfl, hw6⟩
      have hw6 := hw6.symm
      subst hw6
      clear y0 y1 y2 y3
      go_wp2
      go_roundw
      case rel => exact ⟨j + 1, by omega, by go_num, by rw [HN2.out]; simp [Int.add_assoc], trivial⟩
      case measure => simp [intOf]; omega
    · obtain rfl : j = n := by omega
      go_wp2
      go_ret
      exact ⟨rfl, Below.refl _ _⟩


end Go.Proofs.YtgbjleapaioemaaGreat

namespace Go.Proofs.YtgbjleapaioemaaGreat
open Go.RowKit

def flSe (ps : List (Int × Int × Int × Int)) : List Value := ps.flatMap fun p => [.int .i64 p.1, .int .u64 p.2.1, .int .i64 p.2.2.1, .int .i64 p.2.2.2]
theorem flSe_cons (p : Int × Int × Int × Int) (r : List (Int × Int × Int × Int)) : flSe (p :: r) = Value.int .i64 p.1 :: .int .u64 p.2.1 :: .int .i64 p.2.2.1 :: .int .i64 p.2.2.2 :: flSe r := rfl
theorem flSe_append (a b : List (Int × Int × Int × Int)) : flSe (a ++ b) = flSe a ++ flSe b := by simp [flSe, List.flatMap_append]
theorem flSe_len (ps : List (Int × Int × Int × Int)) : (flSe ps).length = ps.length * 4 := by
  induction ps with
  | nil => rfl
  | cons p r ih => rw [flSe_cons]; simp [ih]; omega
theorem flSe_get (ps : List (Int × Int × Int × Int)) : ∀ k, k < ps.length → (flSe ps)[k * 4]? = some (.int .i64 (ps.getD k (0, 0, 0, 0)).1) ∧ (flSe ps)[k * 4 + 1]? = some (.int .u64 (ps.getD k (0, 0, 0, 0)).2.1) ∧ (flSe ps)[k * 4 + 2]? = some (.int .i64 (ps.getD k (0, 0, 0, 0)).2.2.1) ∧ (flSe ps)[k * 4 + 3]? = some (.int .i64 (ps.getD k (0, 0, 0, 0)).2.2.2) := by
  induction ps with
  | nil => intro k h; simp at h
  | cons p r ih =>
    intro k h
    cases k with
    | zero => simp [flSe_cons]
    | succ k =>
      have := ih k (by simpa using h)
      rw [flSe_cons, show (k + 1) * 4 = k * 4 + 1 + 1 + 1 + 1 by omega]
      simpa using this
theorem flSe_set (ps : List (Int × Int × Int × Int)) : ∀ k (u : Int × Int × Int × Int), k < ps.length → ((((flSe ps).set (k * 4) (.int .i64 u.1)).set (k * 4 + 1) (.int .u64 u.2.1)).set (k * 4 + 2) (.int .i64 u.2.2.1)).set (k * 4 + 3) (.int .i64 u.2.2.2) = flSe (ps.set k u) := by
  induction ps with
  | nil => intro k u h; simp at h
  | cons p r ih =>
    intro k u h
    cases k with
    | zero => simp [flSe_cons]
    | succ k =>
      have := ih k u (by simpa using h)
      rw [flSe_cons, show (k + 1) * 4 = k * 4 + 1 + 1 + 1 + 1 by omega]
      simp only [List.set_cons_succ, flSe_cons]
      rw [this]
theorem flSe_one (ps : List (Int × Int × Int × Int)) : ∀ u ∈ flSe ps, u.oneCell' = true := by
  induction ps with
  | nil => intro u hu; simp [flSe] at hu
  | cons p r ih =>
    intro u hu
    rw [flSe_cons] at hu
    simp only [List.mem_cons] at hu
    rcases hu with rfl | rfl | rfl | rfl | hu
    · rfl
    · rfl
    · rfl
    · rfl
    · exact ih u hu
def USe (ps : List (Int × Int × Int × Int)) : Prop := ∀ k, U64 (ps.getD k (0, 0, 0, 0)).2.1
structure RowSe (w : World) (a : Option Addr) (n : Nat) (ps : List (Int × Int × Int × Int)) : Prop where
  len : ps.length = n
  get : ∀ k, k < n → ∃ b off, a = some ⟨b, off, none⟩ ∧ b < w.heap.size ∧ w.cell? ⟨b, off + k * 4, none⟩ = some (.int .i64 (ps.getD k (0, 0, 0, 0)).1) ∧ w.cell? ⟨b, off + k * 4 + 1, none⟩ = some (.int .u64 (ps.getD k (0, 0, 0, 0)).2.1) ∧ w.cell? ⟨b, off + k * 4 + 2, none⟩ = some (.int .i64 (ps.getD k (0, 0, 0, 0)).2.2.1) ∧ w.cell? ⟨b, off + k * 4 + 3, none⟩ = some (.int .i64 (ps.getD k (0, 0, 0, 0)).2.2.2)
  rng : USe ps
theorem RowSe.kept {w w' : World} {a : Option Addr} {n : Nat} {ps : List (Int × Int × Int × Int)} (h : RowSe w a n ps) (hb : Below w.heap.size w w') : RowSe w' a n ps := by
  refine ⟨h.len, fun k hk => ?_, h.rng⟩
  obtain ⟨b, off, ha, hlt, h0, h1, h2, h3⟩ := h.get k hk
  exact ⟨b, off, ha, Nat.lt_of_lt_of_le hlt hb.size, (hb.cell (p := ⟨b, off + k * 4, none⟩) hlt).trans h0, (hb.cell (p := ⟨b, off + k * 4 + 1, none⟩) hlt).trans h1, (hb.cell (p := ⟨b, off + k * 4 + 2, none⟩) hlt).trans h2, (hb.cell (p := ⟨b, off + k * 4 + 3, none⟩) hlt).trans h3⟩
theorem RowSe.in_ {w : World} {a : Option Addr} {n : Nat} {ps : List (Int × Int × Int × Int)} (h : RowSe w a n ps) : In a n 0 w.heap.size := by
  intro b off ha hn
  obtain ⟨b', off', ha', hb, _⟩ := h.get 0 hn
  rw [ha'] at ha
  simp at ha
  omega
theorem RowSe.touch {lo hi p q : Nat} {w w' : World} {a : Option Addr} {n : Nat} {ps : List (Int × Int × Int × Int)} (h : RowSe w a n ps) (hi' : In a n p q) (hd : q ≤ lo ∨ hi ≤ p) (ht : Touch lo hi w w') : RowSe w' a n ps := by
  refine ⟨h.len, fun k hk => ?_, h.rng⟩
  obtain ⟨b, off, ha, hlt, h0, h1, h2, h3⟩ := h.get k hk
  have hp := hi' b off ha (by omega)
  exact ⟨b, off, ha, Nat.lt_of_lt_of_le hlt ht.size, (World.cell?_of_block (a := ⟨b, off + k * 4, none⟩) (ht.block b hlt (by omega))).trans h0, (World.cell?_of_block (a := ⟨b, off + k * 4 + 1, none⟩) (ht.block b hlt (by omega))).trans h1, (World.cell?_of_block (a := ⟨b, off + k * 4 + 2, none⟩) (ht.block b hlt (by omega))).trans h2, (World.cell?_of_block (a := ⟨b, off + k * 4 + 3, none⟩) (ht.block b hlt (by omega))).trans h3⟩
structure OwnSe (B : Nat) (w : World) (a : Option Addr) (n cap : Nat) (ps : List (Int × Int × Int × Int)) : Prop where
  row : w.ownsRow B 45 4 (.slice a n cap) n (flSe ps)
  rng : USe ps
theorem OwnSe.len {B : Nat} {w : World} {a : Option Addr} {n cap : Nat} {ps : List (Int × Int × Int × Int)} (h : OwnSe B w a n cap ps) : ps.length = n := by
  have := h.row.1
  rw [flSe_len] at this
  omega
theorem OwnSe.shape {B : Nat} {w : World} {a : Option Addr} {n cap : Nat} {ps : List (Int × Int × Int × Int)} (h : OwnSe B w a n cap ps) (hn : 0 < n) : ∃ g, a = some ⟨g, 0, none⟩ ∧ B ≤ g ∧ g < w.heap.size := by
  rcases h.row.2 with ⟨_, h0⟩ | ⟨g, cap', cur, hv, hb, hg, _⟩
  · omega
  · simp only [Value.slice.injEq] at hv
    exact ⟨g, hv.1, hb, (Array.getElem?_eq_some_iff.1 hg).1⟩
theorem OwnSe.in_ {B : Nat} {w : World} {a : Option Addr} {n cap : Nat} {ps : List (Int × Int × Int × Int)} (h : OwnSe B w a n cap ps) : In a n B w.heap.size := by
  intro b off ha hn
  obtain ⟨g, hg, h1, h2⟩ := h.shape hn
  rw [hg] at ha
  simp at ha
  omega
theorem OwnSe.toRow {B : Nat} {w : World} {a : Option Addr} {n cap : Nat} {ps : List (Int × Int × Int × Int)} (h : OwnSe B w a n cap ps) : RowSe w a n ps := by
  refine ⟨h.len, fun k hk => ?_, h.rng⟩
  obtain ⟨g, rfl, _, hg⟩ := h.shape (by omega)
  have hf := flSe_get ps k (by rw [h.len]; exact hk)
  exact ⟨g, 0, rfl, hg, by rw [Nat.zero_add, h.row.cellAt _ (by omega)]; exact hf.1, by rw [Nat.zero_add, h.row.cellAt _ (by omega)]; exact hf.2.1, by rw [Nat.zero_add, h.row.cellAt _ (by omega)]; exact hf.2.2.1, by rw [Nat.zero_add, h.row.cellAt _ (by omega)]; exact hf.2.2.2⟩
theorem OwnSe.kept {B : Nat} {w w' : World} {a : Option Addr} {n cap : Nat} {ps : List (Int × Int × Int × Int)} (h : OwnSe B w a n cap ps) (hb : Below w.heap.size w w') : OwnSe B w' a n cap ps := ⟨ownsRow_below h.row hb, h.rng⟩
theorem OwnSe.mono {B B' : Nat} {w : World} {a : Option Addr} {n cap : Nat} {ps : List (Int × Int × Int × Int)} (h : OwnSe B w a n cap ps) (hB : B' ≤ B) : OwnSe B' w a n cap ps :=
  ⟨⟨h.row.1, by rcases h.row.2 with h | ⟨g, cap, cur, hv, hb, r⟩; exact .inl h; exact .inr ⟨g, cap, cur, hv, by omega, r⟩⟩, h.rng⟩
theorem OwnSe.touch {lo hi p q B : Nat} {w w' : World} {a : Option Addr} {n cap : Nat} {ps : List (Int × Int × Int × Int)} (h : OwnSe B w a n cap ps) (hi' : In a n p q) (hd : q ≤ lo ∨ hi ≤ p) (ht : Touch lo hi w w') (hn : 0 < n) : OwnSe B w' a n cap ps := by
  refine ⟨⟨h.row.1, ?_⟩, h.rng⟩
  rcases h.row.2 with hn' | ⟨g, cap', cur, hv, hbb, hgg, rest⟩
  · exact .inl hn'
  · simp only [Value.slice.injEq] at hv
    obtain ⟨rfl, _, rfl⟩ := hv
    have hp := hi' g 0 rfl hn
    exact .inr ⟨g, cap, cur, rfl, hbb, (ht.block g (Array.getElem?_eq_some_iff.1 hgg).1 (by omega)).trans hgg, rest⟩
theorem OwnSe.nil {B : Nat} {w : World} {a : Option Addr} {n cap : Nat} {ps : List (Int × Int × Int × Int)} (h : OwnSe B w a n cap ps) : a = none → cap = 0 := by
  intro e
  subst e
  rcases h.row.2 with ⟨h0, _⟩ | ⟨g, cap', cur, hv, _⟩
  · simp only [Value.slice.injEq] at h0
    exact h0.2.2
  · simp at hv
theorem USe.nil : USe [] := by intro k; simp [U64]
theorem USe.append {a b : List (Int × Int × Int × Int)} (h : USe a) (k : USe b) : USe (a ++ b) := by
  intro i
  by_cases hi : i < a.length
  · have e : (a ++ b).getD i (0, 0, 0, 0) = a.getD i (0, 0, 0, 0) := by rw [List.getD_eq_getElem?_getD, List.getElem?_append_left hi, ← List.getD_eq_getElem?_getD]
    rw [e]; exact h i
  · have e : (a ++ b).getD i (0, 0, 0, 0) = b.getD (i - a.length) (0, 0, 0, 0) := by simp [List.getElem?_append_right (Nat.le_of_not_lt hi)]
    rw [e]; exact k _
theorem USe.set {a : List (Int × Int × Int × Int)} (h : USe a) (i : Nat) (u : Int × Int × Int × Int) (hu : U64 u.2.1) : USe (a.set i u) := by
  intro k
  by_cases e : i = k
  · subst e
    by_cases hl : i < a.length
    · have e2 : (a.set i u).getD i (0, 0, 0, 0) = u := by simp [hl]
      rw [e2]; exact hu
    · have e2 : (a.set i u).getD i (0, 0, 0, 0) = a.getD i (0, 0, 0, 0) := by simp [List.set_eq_of_length_le (Nat.le_of_not_lt hl)]
      rw [e2]; exact h i
  · have e2 : (a.set i u).getD k (0, 0, 0, 0) = a.getD k (0, 0, 0, 0) := by simp [List.getElem?_set_ne e]
    rw [e2]; exact h k
theorem USe.one {u : Int × Int × Int × Int} (hu : U64 u.2.1) : USe [u] := by
  intro k
  cases k with
  | zero => exact hu
  | succ k => simp [U64]
theorem ownSe_none (B : Nat) (w : World) : OwnSe B w none 0 0 [] := ⟨World.ownsRow_nil _ _ _ _, USe.nil⟩
theorem ownSe_appended {B : Nat} {w : World} {v : Value} {m : Nat} {xs ys : List (Int × Int × Int × Int)} (hx : USe xs) (hy : USe ys) (h : w.ownsRow B 45 4 v m (flSe xs ++ flSe ys)) : ∃ a cap, v = .slice a m cap ∧ OwnSe B w a m cap (xs ++ ys) := by
  rw [← flSe_append] at h
  rcases h.2 with ⟨rfl, rfl⟩ | ⟨g, cap, cur, rfl, _⟩
  · exact ⟨_, _, rfl, h, hx.append hy⟩
  · exact ⟨_, _, rfl, h, hx.append hy⟩
theorem Tryz.infoSe : (Tryz.prog.info? 45).map (fun i => (i.zero, i.size, i.bytes)) = some (some (.agg #[.int .i64 0, .int .u64 0, .int .i64 0, .int .i64 0]), 4, 32) := by kernel_rfl
theorem cell_oneSe (w : World) (p : Int × Int × Int × Int) : ∀ jj uu, (flSe [p])[jj]? = some uu → (w.alloc (.cells #[.int .i64 p.1, .int .u64 p.2.1, .int .i64 p.2.2.1, .int .i64 p.2.2.2] 45)).cell? ((⟨w.heap.size, 0, none⟩ : Addr).add jj) = some uu := by
  intro jj uu hju
  rw [Addr.add_lit, Nat.zero_add, cell_of_row _ w.heap.size jj _ 45 _ (heap_alloc_new w _), ← hju]
  simp [flSe]
theorem OwnSe.store {B : Nat} {w : World} {g n cap : Nat} {ps : List (Int × Int × Int × Int)} (h : OwnSe B w (some ⟨g, 0, none⟩) n cap ps) (k : Nat) (hk : k < n) (u : Int × Int × Int × Int) (hu : U64 u.2.1) :
    OwnSe B ((((w.setCell ⟨g, k * 4, none⟩ (.int .i64 u.1)).setCell ⟨g, k * 4 + 1, none⟩ (.int .u64 u.2.1)).setCell ⟨g, k * 4 + 2, none⟩ (.int .i64 u.2.2.1)).setCell ⟨g, k * 4 + 3, none⟩ (.int .i64 u.2.2.2)) (some ⟨g, 0, none⟩) n cap (ps.set k u) := by
  refine ⟨?_, h.rng.set k u hu⟩
  have := ((((h.row.stored (k * 4) (.int .i64 u.1)).1.stored (k * 4 + 1) (.int .u64 u.2.1)).1.stored (k * 4 + 2) (.int .i64 u.2.2.1)).1.stored (k * 4 + 3) (.int .i64 u.2.2.2)).1
  rwa [flSe_set ps k u (by rw [h.len]; exact hk)] at this
def aggSe (p : Int × Int × Int × Int) : Value := .agg #[.int .i64 p.1, .int .u64 p.2.1, .int .i64 p.2.2.1, .int .i64 p.2.2.2]

set_option maxRecDepth 10000 in
set_option maxHeartbeats 400000 in
theorem eqSe_same (p : Int × Int × Int × Int) (w : World) :
    Calls Tryz.prog 24 #[aggSe p, aggSe p] w fun e w' => e = .returned (.bool true) ∧ Below w.heap.size w w' := by
  obtain ⟨a0, a1, a2, a3⟩ := p
  unfold aggSe
  have z0 : (a0 != a0) = false := by simp
  have z1 : (a1 != a1) = false := by simp
  have z2 : (a2 != a2) = false := by simp
  have z3 : (a3 != a3) = false := by simp
  go_enter Tryz.func24, Tryz.ntmps24
  go_wp2
  go_ret
  exact ⟨rfl, ((Below.refl _ _).alloc (Nat.le_refl _) _).alloc (by simp) _⟩

set_option maxRecDepth 10000 in
set_option maxHeartbeats 2000000 in
theorem eqSeS_same (a b : Option Addr) (n ca cb : Nat) (ps : List (Int × Int × Int × Int)) (w : World) (hx : RowSe w a n ps) (hy : RowSe w b n ps) (hn : n ≤ 9223372036854775807) :
    Calls Tryz.prog 10 #[.slice a n ca, .slice b n cb] w fun e w' => e = .returned (.bool true) ∧ Below w.heap.size w w' := by
  have HX : Hid (RowSe w a n ps) := hx
  have HY : Hid (RowSe w b n ps) := hy
  clear hx hy
  have zn : ((n : Int) != (n : Int)) = false := by simp
  go_enter Tryz.func10, Tryz.ntmps10
  go_wp2
  go_loopw [5] (fun i wr => ∃ k : Nat, k ≤ n ∧ i = .int .i64 k ∧ Below w.heap.size w wr) (fun i _ => n - (intOf i).toNat)
  case atStart => exact ⟨0, Nat.zero_le _, rfl, Below.refl _ _⟩
  case round =>
    obtain ⟨k, hk, rfl, hbr⟩ := hrel
    by_cases hlt : k < n
    · obtain ⟨b1, o1, rfl, hl1, x0, x1, x2, x3⟩ := (HX.out.kept hbr).get k hlt
      obtain ⟨b2, o2, rfl, hl2, y0, y1, y2, y3⟩ := (HY.out.kept hbr).get k hlt
      obtain ⟨q, hq⟩ : ∃ q, q = ps.getD k (0, 0, 0, 0) := ⟨_, rfl⟩
      rw [← hq] at x0 x1 x2 x3 y0 y1 y2 y3
      clear hq
      have hlti : (k : Int) < (n : Int) := by omega
      go_wp2_with fail
      have EQ : Hid (Calls Tryz.prog 24 #[aggSe q, aggSe q] wr.drew fun e w' => e = .returned (.bool true) ∧ Below wr.drew.heap.size wr.drew w') := eqSe_same q wr.drew
      unfold aggSe at EQ
      have e0 : wr.drew.cell? ⟨b1, o1 + k * 4, none⟩ = some (.int .i64 q.1) := x0
      go_region_with ((go_at_call 24; refine Calls.mono EQ.out ?_; rintro e w2 ⟨rfl, hb2⟩))
      all_goals
        go_wp2
        go_roundw
        case rel => exact ⟨k + 1, by omega, by go_num, keepT hbr.drew hb2⟩
        case measure => simp [intOf]; omega
    · go_wp2
      go_ret
      exact ⟨rfl, hbr⟩

def Pre_Se (vs : List Value) (ps : List (Int × Int × Int × Int)) (k : Nat) : Prop := ∀ j, j < k → vs[j * 4]? = some (.int .i64 (ps.getD j (0, 0, 0, 0)).1) ∧ vs[j * 4 + 1]? = some (.int .u64 (ps.getD j (0, 0, 0, 0)).2.1) ∧ vs[j * 4 + 2]? = some (.int .i64 (ps.getD j (0, 0, 0, 0)).2.2.1) ∧ vs[j * 4 + 3]? = some (.int .i64 (ps.getD j (0, 0, 0, 0)).2.2.2)
theorem Pre_Se.set {vs : List Value} {ps : List (Int × Int × Int × Int)} {k : Nat} (h : Pre_Se vs ps k) (hv : k * 4 + 3 < vs.length) : Pre_Se ((((vs.set (k * 4) (.int .i64 (ps.getD k (0, 0, 0, 0)).1)).set (k * 4 + 1) (.int .u64 (ps.getD k (0, 0, 0, 0)).2.1)).set (k * 4 + 2) (.int .i64 (ps.getD k (0, 0, 0, 0)).2.2.1)).set (k * 4 + 3) (.int .i64 (ps.getD k (0, 0, 0, 0)).2.2.2)) ps (k + 1) := by
  intro j hj
  by_cases e : j = k
  · subst e
    exact ⟨by simp [List.getElem?_set]; omega, by simp [List.getElem?_set]; omega, by simp [List.getElem?_set]; omega, by simp [List.getElem?_set]; omega⟩
  · have := h j (by omega)
    exact ⟨by simp only [List.getElem?_set]; rw [if_neg (by omega)]; rw [if_neg (by omega)]; rw [if_neg (by omega)]; rw [if_neg (by omega)]; exact this.1, by simp only [List.getElem?_set]; rw [if_neg (by omega)]; rw [if_neg (by omega)]; rw [if_neg (by omega)]; rw [if_neg (by omega)]; exact this.2.1, by simp only [List.getElem?_set]; rw [if_neg (by omega)]; rw [if_neg (by omega)]; rw [if_neg (by omega)]; rw [if_neg (by omega)]; exact this.2.2.1, by simp only [List.getElem?_set]; rw [if_neg (by omega)]; rw [if_neg (by omega)]; rw [if_neg (by omega)]; rw [if_neg (by omega)]; exact this.2.2.2⟩
theorem Pre_Se.all {vs : List Value} {ps : List (Int × Int × Int × Int)} {n : Nat} (h : Pre_Se vs ps n) (hv : vs.length = n * 4) (hl : ps.length = n) : vs = flSe ps := by
  apply List.ext_getElem?
  intro i
  by_cases hi : i < n * 4
  · have hk : i / 4 < n := by omega
    have h1 := h (i / 4) hk
    have h2 := flSe_get ps (i / 4) (by omega)
    rcases (show i = i / 4 * 4 ∨ i = i / 4 * 4 + 1 ∨ i = i / 4 * 4 + 2 ∨ i = i / 4 * 4 + 3 by omega) with e | e | e | e
    · rw [e, h1.1, h2.1]
    · rw [e, h1.2.1, h2.2.1]
    · rw [e, h1.2.2.1, h2.2.2.1]
    · rw [e, h1.2.2.2, h2.2.2.2]
  · rw [List.getElem?_eq_none (by omega), List.getElem?_eq_none (by rw [flSe_len]; omega)]

theorem results_Se {fn : Func} {t : Tmp} (h : fn.results = #[.cell t 45]) (tmps : Array Value) (g : Nat) (ht : tmps.getD t undef = .pointer (some ⟨g, 0, none⟩)) (w : World) (p : Int × Int × Int × Int)
    (hb : w.heap[g]? = some (.cells #[.int .i64 p.1, .int .u64 p.2.1, .int .i64 p.2.2.1, .int .i64 p.2.2.2] 45 (0, 0))) : (results fn tmps).run Tryz.prog w = .ok (aggSe p) w := by
  have d0 : w.cell? ⟨g, 0, none⟩ = some (.int .i64 p.1) := (cell_of_row _ g 0 _ 45 (0, 0) hb).trans rfl
  have d1 : w.cell? ⟨g, 1, none⟩ = some (.int .u64 p.2.1) := (cell_of_row _ g 1 _ 45 (0, 0) hb).trans rfl
  have d2 : w.cell? ⟨g, 2, none⟩ = some (.int .i64 p.2.2.1) := (cell_of_row _ g 2 _ 45 (0, 0) hb).trans rfl
  have d3 : w.cell? ⟨g, 3, none⟩ = some (.int .i64 p.2.2.2) := (cell_of_row _ g 3 _ 45 (0, 0) hb).trans rfl
  clear hb
  have ht' : tmps[t]?.getD undef = .pointer (some ⟨g, 0, none⟩) := by rw [← ht]; simp
  simp [results, h, go_sem, ht', d0, d1, d2, d3, aggSe]

set_option maxRecDepth 10000 in
set_option maxHeartbeats 1000000 in
theorem toSe_any (p : Int × Int × Int × Int) (w : World) :
    Calls Tryz.prog 19 #[aggSe p] w fun e w' => e = .returned (aggSe p) ∧ Below w.heap.size w w' := by
  have s1 : (w.alloc (.cells #[.int .i64 p.1, .int .u64 p.2.1, .int .i64 p.2.2.1, .int .i64 p.2.2.2] 49)).heap.size = w.heap.size + 1 := by simp
  have HB1 : Hid (((((w.alloc (.cells #[.int .i64 p.1, .int .u64 p.2.1, .int .i64 p.2.2.1, .int .i64 p.2.2.2] 49)).alloc (.cells #[.int .i64 p.1, .int .u64 p.2.1, .int .i64 p.2.2.1, .int .i64 p.2.2.2] 45)).alloc (.cells #[.int .i64 p.1, .int .u64 p.2.1, .int .i64 p.2.2.1, .int .i64 p.2.2.2] 45))).heap[w.heap.size + 1]? = some (.cells #[.int .i64 p.1, .int .u64 p.2.1, .int .i64 p.2.2.1, .int .i64 p.2.2.2] 45)) := by
    show _ = _
    exact (heap_alloc_old _ _ (by simp)).trans (by rw [← s1]; exact heap_alloc_new _ _)
  clear s1
  rw [aggSe]
  go_enter Tryz.func19, Tryz.ntmps19
  go_wp2
  try simp only [Exit.inBlock, Exit.then]
  exact bodyPost_ret (results_Se rfl _ (w.heap.size + 1) rfl _ p HB1.out) rfl ⟨rfl, (((Below.refl _ _).alloc (Nat.le_refl _) _).alloc (by simp) _).alloc (by simp; omega) _⟩

set_option maxRecDepth 10000 in
set_option maxHeartbeats 2000000 in
theorem toSeS_any (a : Option Addr) (n c : Nat) (ps : List (Int × Int × Int × Int)) (w : World) (h : RowSe w a n ps) (hn : n ≤ 1048576) :
    Calls Tryz.prog 7 #[.slice a n c] w fun e w' => ∃ ar, e = .returned (.slice ar n n) ∧ OwnSe w.heap.size w' ar n n ps ∧ Below w.heap.size w w' := by
  obtain ⟨i0, hi, hz0, hz1, hz2⟩ := info_parts Tryz.infoSe
  have H0 : Hid (RowSe w a n ps) := h
  have HL : Hid (ps.length = n) := h.len
  have HR : Hid (USe ps) := h.rng
  clear h
  go_enter Tryz.func7, Tryz.ntmps7
  go_wp2_with (first | (at_make; refine wpList_make_full _ rfl _ _ 28 rfl w.heap.size 45 i0 _ 4 Tryz.underlying28 hi hz0 hz1 _ _ _ _ n rfl rfl rfl rfl (by rw [hz2]; omega) (by unfold maxLen; omega) (by exact Nat.le_refl _) ?_; intro w2 hown hgrow))
  have hbl : Below w.heap.size w w2 := (Below.refl _ _).grown hgrow (Nat.le_refl _) (by simp)
  clear hgrow hi hz0 hz1 hz2
  go_loopw [4] (fun i wr => ∃ k : Nat, k ≤ n ∧ i = .int .i64 k ∧ (∃ vs, wr.ownsRow w.heap.size 45 4 (.slice (some ⟨w.heap.size, 0, none⟩) n n) n vs ∧ Pre_Se vs ps k) ∧ Below w.heap.size w wr) (fun i _ => n - (intOf i).toNat)
  case atStart => exact ⟨0, Nat.zero_le _, rfl, ⟨_, hown, fun j hj => absurd hj (Nat.not_lt_zero _)⟩, hbl⟩
  case round =>
    obtain ⟨k, hk, rfl, ⟨vs, hor, hpre⟩, hbr⟩ := hrel
    by_cases hkn : k < n
    · obtain ⟨b, off, rfl, hlb, x0, x1, x2, x3⟩ := (H0.out.kept hbr).get k hkn
      obtain ⟨p, hp⟩ : ∃ p, p = ps.getD k (0, 0, 0, 0) := ⟨_, rfl⟩
      rw [← hp] at x0 x1 x2 x3
      have HP : Hid (ps.getD k (0, 0, 0, 0) = p) := hp.symm
      have hkni : (k : Int) < (n : Int) := by omega
      have HPRE : Hid (Pre_Se vs ps k) := hpre
      have HOR : Hid (wr.ownsRow w.heap.size 45 4 (.slice (some ⟨w.heap.size, 0, none⟩) n n) n vs) := hor
      have hws := hbr.size
      have TO := fun W => toSe_any p W
      unfold aggSe at TO
      clear hp hpre hor hown hbl
      go_wp2_with fail
      refine (TO _).mono ?_
      rintro e w3 ⟨rfl, hb3⟩
      have hor3 := ownsRow_below HOR.out hb3
      have hvl : vs.length = n * 4 := hor3.1
      have f0 : w3.frozen? ⟨w.heap.size, k * 4, none⟩ = false := hor3.frozenAt _
      have f1 : w3.frozen? ⟨w.heap.size, k * 4 + 1, none⟩ = false := hor3.frozenAt _
      have f2 : w3.frozen? ⟨w.heap.size, k * 4 + 2, none⟩ = false := hor3.frozenAt _
      have f3 : w3.frozen? ⟨w.heap.size, k * 4 + 3, none⟩ = false := hor3.frozenAt _
      obtain ⟨y0, hy0⟩ : ∃ y, w3.cell? ⟨w.heap.size, k * 4, none⟩ = some y := ⟨_, (hor3.cellAt _ (by omega)).trans (List.getElem?_eq_getElem (by omega))⟩
      obtain ⟨y1, hy1⟩ : ∃ y, w3.cell? ⟨w.heap.size, k * 4 + 1, none⟩ = some y := ⟨_, (hor3.cellAt _ (by omega)).trans (List.getElem?_eq_getElem (by omega))⟩
      obtain ⟨y2, hy2⟩ : ∃ y, w3.cell? ⟨w.heap.size, k * 4 + 2, none⟩ = some y := ⟨_, (hor3.cellAt _ (by omega)).trans (List.getElem?_eq_getElem (by omega))⟩
      obtain ⟨y3, hy3⟩ : ∃ y, w3.cell? ⟨w.heap.size, k * 4 + 3, none⟩ = some y := ⟨_, (hor3.cellAt _ (by omega)).trans (List.getElem?_eq_getElem (by omega))⟩
      have hP := HPRE.out.set (by omega)
      rw [HP.out] at hP
      have hO := ((((hor3.stored (k * 4) (.int .i64 p.1)).1.stored (k * 4 + 1) (.int .u64 p.2.1)).1.stored (k * 4 + 2) (.int .i64 p.2.2.1)).1.stored (k * 4 + 3) (.int .i64 p.2.2.2)).1
      have hB : Below w.heap.size w ((((w3.setCell ⟨w.heap.size, k * 4, none⟩ (.int .i64 p.1)).setCell ⟨w.heap.size, k * 4 + 1, none⟩ (.int .u64 p.2.1)).setCell ⟨w.heap.size, k * 4 + 2, none⟩ (.int .i64 p.2.2.1)).setCell ⟨w.heap.size, k * 4 + 3, none⟩ (.int .i64 p.2.2.2)) := (((((keepT hbr hb3).setCell (Nat.le_refl _) _).setCell (Nat.le_refl _) _).setCell (Nat.le_refl _) _).setCell (Nat.le_refl _) _)
      have FIN : Hid (_ ∧ _ ∧ _) := ⟨hO, hP, hB⟩
      clear hP hO hB hor3 hb3 hbr HPRE HOR TO
      go_wp2
      go_roundw
      case rel => exact ⟨k + 1, by omega, by go_num, ⟨_, FIN.out.1, FIN.out.2.1⟩, FIN.out.2.2⟩
      case measure => simp [intOf]; omega
    · obtain rfl : k = n := by omega
      have hvs := hpre.all hor.1 HL.out
      rw [hvs] at hor
      have FIN : Hid (OwnSe w.heap.size wr (some ⟨w.heap.size, 0, none⟩) k k ps ∧ Below w.heap.size w wr) := ⟨⟨hor, HR.out⟩, hbr⟩
      clear hor hpre hbr hvs hown hbl
      go_wp2
      go_ret
      exact ⟨_, rfl, FIN.out.1, FIN.out.2⟩

set_option maxRecDepth 10000 in
set_option maxHeartbeats 1000000 in
theorem szSeS_any (a : Option Addr) (n c : Nat) (l : Int) (w : World) (hn : n ≤ 9223372036854775807) (h0 : 0 ≤ l) (h1 : l ≤ 1048576) :
    Calls Tryz.prog 4 #[.slice a n c, .int .i64 l] w fun e w' => e = .returned (.int .i64 (if l < n then -1 else l - n)) ∧ w' = w := by
  by_cases hlt : l < n
  · have h' : l - (n : Int) < 0 := by omega
    rw [if_pos hlt]
    go_enter Tryz.func4, Tryz.ntmps4
    go_wp2
    go_ret
    exact ⟨rfl, rfl⟩
  · have h' : 0 ≤ l - (n : Int) := by omega
    rw [if_neg hlt]
    go_enter Tryz.func4, Tryz.ntmps4
    go_wp2
    go_ret
    exact ⟨rfl, rfl⟩

theorem touch_oneSe {p q : Nat} (w : World) (g j : Nat) (u : Value) (h1 : p ≤ g) (h2 : g < q) : Touch p q w (w.setCell ⟨g, j, none⟩ u) :=
  ⟨rfl, rfl, rfl, by simp, fun k _ hk => heap_setCell_other w ⟨g, j, none⟩ k u (by simp; omega)⟩
def mkSe (k i : Nat) : Int × Int × Int × Int := (((k + 4 * i : Nat) : Int), ((k + 4 * i + 1 : Nat) : Int), ((k + 4 * i + 2 : Nat) : Int), ((k + 4 * i + 3 : Nat) : Int))
def marksSe (k n : Nat) : List (Int × Int × Int × Int) := (List.range n).map (mkSe k)
def mkdSe (ps : List (Int × Int × Int × Int)) (k j : Nat) : List (Int × Int × Int × Int) := marksSe k j ++ ps.drop j
theorem mkdSe_zero (ps : List (Int × Int × Int × Int)) (k : Nat) : mkdSe ps k 0 = ps := by simp [mkdSe, marksSe]
theorem mkdSe_all (ps : List (Int × Int × Int × Int)) (k : Nat) : mkdSe ps k ps.length = marksSe k ps.length := by simp [mkdSe]
theorem mkdSe_set (ps : List (Int × Int × Int × Int)) (k j : Nat) (h : j < ps.length) : (mkdSe ps k j).set j (mkSe k j) = mkdSe ps k (j + 1) := by
  unfold mkdSe
  rw [List.drop_eq_getElem_cons h, set_append_mid _ _ _ _ _ (by simp [marksSe]), show marksSe k (j + 1) = marksSe k j ++ [mkSe k j] by simp [marksSe, List.range_succ], List.append_assoc]
  rfl
theorem marksSe_get (k n i : Nat) (h : i < n) : (marksSe k n).getD i (0, 0, 0, 0) = mkSe k i := by simp [marksSe, h]

set_option maxRecDepth 10000 in
set_option maxHeartbeats 2000000 in
theorem markSeS_any (B : Nat) (a : Option Addr) (n cap k : Nat) (ps : List (Int × Int × Int × Int)) (w : World) (h : OwnSe B w a n cap ps) (hn : n ≤ 10000000) (hk : k ≤ 10000000) :
    Calls Tryz.prog 13 #[.slice a n cap, .int .i64 k] w fun e w' => e = .returned (.int .i64 (k + 4 * n : Nat)) ∧ OwnSe B w' a n cap (marksSe k n) ∧ ∀ p q, In a n p q → Touch p q w w' := by
  have HL : Hid (ps.length = n) := h.len
  have HO : Hid (OwnSe B w a n cap (mkdSe ps k 0)) := by show OwnSe _ _ _ _ _ _; rw [mkdSe_zero]; exact h
  clear h
  go_enter Tryz.func13, Tryz.ntmps13
  go_wp2
  go_loopw [1, 5] (fun kk i wr => ∃ j : Nat, j ≤ n ∧ i = .int .i64 j ∧ kk = .int .i64 (k + 4 * j : Nat) ∧ OwnSe B wr a n cap (mkdSe ps k j) ∧ (∀ p q, In a n p q → Touch p q w wr)) (fun _ i _ => n - (intOf i).toNat)
  case atStart => exact ⟨0, Nat.zero_le _, rfl, rfl, HO.out, fun p q _ => Touch.of_below (Below.refl _ _)⟩
  case round =>
    obtain ⟨j, hj, rfl, rfl, hor, htr⟩ := hrel
    by_cases hlt : j < n
    · obtain ⟨g, rfl, hg0, hg1⟩ := hor.shape (by omega)
      have hfl : (flSe (mkdSe ps k j)).length = n * 4 := hor.row.1
      have f0 : wr.frozen? ⟨g, j * 4, none⟩ = false := hor.row.frozenAt _
      have f1 : wr.frozen? ⟨g, j * 4 + 1, none⟩ = false := hor.row.frozenAt _
      have f2 : wr.frozen? ⟨g, j * 4 + 2, none⟩ = false := hor.row.frozenAt _
      have f3 : wr.frozen? ⟨g, j * 4 + 3, none⟩ = false := hor.row.frozenAt _
      obtain ⟨y0, hy0⟩ : ∃ y, wr.cell? ⟨g, j * 4, none⟩ = some y := ⟨_, (hor.row.cellAt _ (by omega)).trans (List.getElem?_eq_getElem (by omega))⟩
      obtain ⟨y1, hy1⟩ : ∃ y, wr.cell? ⟨g, j * 4 + 1, none⟩ = some y := ⟨_, (hor.row.cellAt _ (by omega)).trans (List.getElem?_eq_getElem (by omega))⟩
      obtain ⟨y2, hy2⟩ : ∃ y, wr.cell? ⟨g, j * 4 + 2, none⟩ = some y := ⟨_, (hor.row.cellAt _ (by omega)).trans (List.getElem?_eq_getElem (by omega))⟩
      obtain ⟨y3, hy3⟩ : ∃ y, wr.cell? ⟨g, j * 4 + 3, none⟩ = some y := ⟨_, (hor.row.cellAt _ (by omega)).trans (List.getElem?_eq_getElem (by omega))⟩
      have hs := hor.store j hlt (mkSe k j) (⟨by simp [mkSe]; omega, by simp [mkSe]; omega⟩)
      rw [mkdSe_set ps k j (by rw [HL.out]; exact hlt)] at hs
      have e0 : (mkSe k j).1 = (k : Int) + 4 * (j : Int) := by simp [mkSe]
      have e1 : (mkSe k j).2.1 = (k : Int) + 4 * (j : Int) + 1 := by simp [mkSe]
      have e2 : (mkSe k j).2.2.1 = (k : Int) + 4 * (j : Int) + 2 := by simp [mkSe]
      have e3 : (mkSe k j).2.2.2 = (k : Int) + 4 * (j : Int) + 3 := by simp [mkSe]
      rw [e0, e1, e2, e3] at hs
      have ht : ∀ p q, In (some ⟨g, 0, none⟩) n p q → Touch p q w ((((wr.setCell ⟨g, j * 4, none⟩ (.int .i64 ((k : Int) + 4 * (j : Int)))).setCell ⟨g, j * 4 + 1, none⟩ (.int .u64 ((k : Int) + 4 * (j : Int) + 1))).setCell ⟨g, j * 4 + 2, none⟩ (.int .i64 ((k : Int) + 4 * (j : Int) + 2))).setCell ⟨g, j * 4 + 3, none⟩ (.int .i64 ((k : Int) + 4 * (j : Int) + 3))) := fun p q hin => by
        have hp := hin g 0 rfl (by omega)
        exact ((((htr p q hin).trans (touch_oneSe _ g (j * 4) _ hp.1 hp.2)).trans (touch_oneSe _ g (j * 4 + 1) _ hp.1 hp.2)).trans (touch_oneSe _ g (j * 4 + 2) _ hp.1 hp.2)).trans (touch_oneSe _ g (j * 4 + 3) _ hp.1 hp.2)
      have FIN : Hid (_ ∧ _) := ⟨hs, ht⟩
      have hlti : (j : Int) < (n : Int) := by omega
      clear hor htr hs ht e0 e1 e2 e3 hfl
      go_wp2
      go_roundw
      case rel => exact ⟨j + 1, by omega, by go_num, by go_num, FIN.out.1, FIN.out.2⟩
      case measure => simp [intOf]; omega
    · obtain rfl : j = n := by omega
      have hm : mkdSe ps k j = marksSe k j := by rw [← HL.out]; exact mkdSe_all ps k
      rw [hm] at hor
      have FIN : Hid (_ ∧ _) := ⟨hor, htr⟩
      clear hor htr hm
      go_wp2
      go_ret
      exact ⟨by go_num, FIN.out.1, FIN.out.2⟩

set_option maxRecDepth 10000 in
set_option maxHeartbeats 2000000 in
theorem heldSeS_any (a : Option Addr) (n cap k : Nat) (w : World) (h : RowSe w a n (marksSe k n)) (hn : n ≤ 10000000) (hk : k ≤ 10000000) :
    Calls Tryz.prog 16 #[.slice a n cap, .int .i64 k] w fun e w' => e = .returned (.int .i64 (k + 4 * n : Nat)) ∧ w' = w := by
  have H0 : Hid (RowSe w a n (marksSe k n)) := h
  clear h
  go_enter Tryz.func16, Tryz.ntmps16
  go_wp2
  go_loopw [1, 5] (fun kk i wr => ∃ j : Nat, j ≤ n ∧ i = .int .i64 j ∧ kk = .int .i64 (k + 4 * j : Nat) ∧ w = wr) (fun _ i _ => n - (intOf i).toNat)
  case atStart => exact ⟨0, Nat.zero_le _, rfl, rfl, rfl⟩
  case round =>
    obtain ⟨j, hj, rfl, rfl, rfl⟩ := hrel
    by_cases hlt : j < n
    · obtain ⟨b, off, rfl, hb, c0, c1, c2, c3⟩ := H0.out.get j hlt
      rw [marksSe_get k n j hlt] at c0 c1 c2 c3
      have e0 : (mkSe k j).1 = (k : Int) + 4 * (j : Int) := by simp [mkSe]
      have e1 : (mkSe k j).2.1 = (k : Int) + 4 * (j : Int) + 1 := by simp [mkSe]
      have e2 : (mkSe k j).2.2.1 = (k : Int) + 4 * (j : Int) + 2 := by simp [mkSe]
      have e3 : (mkSe k j).2.2.2 = (k : Int) + 4 * (j : Int) + 3 := by simp [mkSe]
      rw [e0] at c0
      rw [e1] at c1
      rw [e2] at c2
      rw [e3] at c3
      have hlti : (j : Int) < (n : Int) := by omega
      have z0 : ((k : Int) + 4 * (j : Int) != (k : Int) + 4 * (j : Int)) = false := by simp
      have z1 : ((k : Int) + 4 * (j : Int) + 1 != (k : Int) + 4 * (j : Int) + 1) = false := by simp
      have z2 : ((k : Int) + 4 * (j : Int) + 2 != (k : Int) + 4 * (j : Int) + 2) = false := by simp
      have z3 : ((k : Int) + 4 * (j : Int) + 3 != (k : Int) + 4 * (j : Int) + 3) = false := by simp
      clear e0 e1 e2 e3
      go_wp2
      go_roundw
      case rel => exact ⟨j + 1, by omega, by go_num, by go_num, by trivial⟩
      case measure => simp [intOf]; omega
    · obtain rfl : j = n := by omega
      go_wp2
      go_ret
      exact ⟨by go_num, rfl⟩

end Go.Proofs.YtgbjleapaioemaaGreat

namespace Go.Proofs.YtgbjleapaioemaaGreat
open Go.RowKit

def xr (xs ys : List Int) (i : Nat) : Int := bits .xor .u8 (xs.getD i 0) (ys.getD (i % ys.length) 0)
def xorTo (xs ys : List Int) (k : Nat) : List Int := (List.range xs.length).map fun i => if i < k then xr xs ys i else xs.getD i 0
def xorL (xs ys : List Int) : List Int := if ys = [] then xs else xorTo xs ys xs.length

theorem xr_byte {xs ys : List Int} (hx : ∀ k, 0 ≤ xs.getD k 0 ∧ xs.getD k 0 ≤ 255) (hy : ∀ k, 0 ≤ ys.getD k 0 ∧ ys.getD k 0 ≤ 255) (i : Nat) : 0 ≤ xr xs ys i ∧ xr xs ys i ≤ 255 := by
  unfold xr
  have h1 := hx i
  have h2 := hy (i % ys.length)
  rw [u8_xor _ _ h1.1 (by omega) h2.1 (by omega)]
  have : (xs.getD i 0).toNat ^^^ (ys.getD (i % ys.length) 0).toNat < 2 ^ 8 := Nat.xor_lt_two_pow (by omega) (by omega)
  omega
theorem xorTo_len (xs ys : List Int) (k : Nat) : (xorTo xs ys k).length = xs.length := by simp [xorTo]
theorem xorTo_zero (xs ys : List Int) : xorTo xs ys 0 = xs := by
  unfold xorTo
  apply List.ext_getElem
  · simp
  · intro i h1 h2; simp [h2]
theorem xorTo_get (xs ys : List Int) (k : Nat) (h : k < xs.length) : (xorTo xs ys k).getD k 0 = xs.getD k 0 := by simp [xorTo, h]
theorem xorTo_set (xs ys : List Int) (k : Nat) : (xorTo xs ys k).set k (xr xs ys k) = xorTo xs ys (k + 1) := by
  unfold xorTo
  apply List.ext_getElem
  · simp
  · intro i h1 h2
    simp at h1 h2
    rw [List.getElem_set]
    by_cases e : k = i
    · subst e; simp
    · rw [if_neg e]
      simp
      by_cases h3 : i < k
      · rw [if_pos h3, if_pos (by omega)]
      · rw [if_neg h3, if_neg (by omega)]

theorem own_heap {B : Nat} {w : World} {g n : Nat} {bs : List Int} (h : Own B w (some ⟨g, 0, none⟩) n n bs) : w.heap[g]? = some (.cells (bs.map (Value.int .u8)).toArray 5 (0, 0)) := by
  rcases h.row.2 with ⟨h', _⟩ | ⟨g', cap', cur, h', hb, hg, _, _, hsz, ht⟩
  · simp at h'
  · simp only [Value.slice.injEq, Option.some.injEq, Addr.mk.injEq, and_true, true_and] at h'
    obtain ⟨rfl, rfl⟩ := h'
    rw [List.take_of_length_le (by simp; omega)] at ht
    rw [hg, ← ht]
theorem own_of_heap {B : Nat} {w : World} {g n : Nat} {bs : List Int} (hB : B ≤ g) (hn : bs.length = n) (hm : n ≤ maxLen) (h : w.heap[g]? = some (.cells (bs.map (Value.int .u8)).toArray 5 (0, 0))) (hb : ∀ k, 0 ≤ bs.getD k 0 ∧ bs.getD k 0 ≤ 255) : Own B w (some ⟨g, 0, none⟩) n n bs :=
  ⟨⟨by simp [hn], .inr ⟨g, n, _, rfl, hB, h, Nat.le_refl _, hm, by simp [hn], List.take_of_length_le (by simp [hn])⟩⟩, hb⟩
theorem splice_all {α : Type} (L cs : List α) (h : cs.length = L.length) : splice L 0 cs = cs := by simp [splice, h]

theorem copy_src {w : World} {a : Option Addr} {n : Nat} {xs : List Int} {cs : List Value} (h : Row w a n xs) (hc : cs = xs.map (Value.int .u8)) (h0 : 0 < cs.length) : ∃ ad, a = some ad ∧ ∀ j v, cs[j]? = some v → w.cell? (ad.add j) = some v := by
  subst hc
  obtain ⟨b, off, rfl, _, _⟩ := h.get 0 (by rw [← h.len]; simpa using h0)
  exact ⟨_, rfl, row_cells h⟩

end Go.Proofs.YtgbjleapaioemaaGreat

namespace Go.Proofs.YtgbjleapaioemaaGreat
open Go.RowKit

def alX : List Int := [97, 108, 103]
theorem alX_byte : ∀ k, 0 ≤ alX.getD k 0 ∧ alX.getD k 0 ≤ 255 := bytes_of_all (by decide)
def tgX : List Int := [116, 97, 103]
theorem tgX_byte : ∀ k, 0 ≤ tgX.getD k 0 ∧ tgX.getD k 0 ≤ 255 := bytes_of_all (by decide)
def smX : List Int := [115, 116, 114, 101, 97, 109]
theorem smX_byte : ∀ k, 0 ≤ smX.getD k 0 ∧ smX.getD k 0 ≤ 255 := bytes_of_all (by decide)
def psX : List Int := [112, 97, 115, 115]
theorem psX_byte : ∀ k, 0 ≤ psX.getD k 0 ∧ psX.getD k 0 ≤ 255 := bytes_of_all (by decide)
def wrX : List Int := [119, 114, 97, 112]
theorem wrX_byte : ∀ k, 0 ≤ wrX.getD k 0 ∧ wrX.getD k 0 ≤ 255 := bytes_of_all (by decide)
def ctX : List Int := [99, 111, 110, 116, 101, 110, 116]
theorem ctX_byte : ∀ k, 0 ≤ ctX.getD k 0 ∧ ctX.getD k 0 ≤ 255 := bytes_of_all (by decide)
/-- The digest of three parts. -/
def triN (a b c : List Int) : Int := hashL (partsL [a, b, c])
theorem triN_bd (a b c : List Int) : U64 (triN a b c) := hashL_bd _
theorem tri_total (a b c : List Int) (h : a.length + b.length + c.length ≤ 2097152) : total [a, b, c] ≤ 2097152 := by unfold total; simp; omega
theorem tri_rows (X : World) (T : Nat) (a1 : Option Addr) (n1 c1 : Nat) (p1 : List Int) (a2 : Option Addr) (n2 c2 : Nat) (p2 : List Int) (a3 : Option Addr) (n3 c3 : Nat) (p3 : List Int) (h1 : Row X a1 n1 p1) (e1 : a1 = none → c1 = 0) (h2 : Row X a2 n2 p2) (e2 : a2 = none → c2 = 0) (h3 : Row X a3 n3 p3) (e3 : a3 = none → c3 = 0) :
    Rows2 (X.alloc (.cells #[.slice a1 n1 c1, .slice a2 n2 c2, .slice a3 n3 c3] T)) (some ⟨X.heap.size, 0, none⟩) 3 [p1, p2, p3] := by
  refine rows2_lit X [(a1, n1, c1, p1), (a2, n2, c2, p2), (a3, n3, c3, p3)] T ?_
  intro p hp
  simp only [List.mem_cons, List.not_mem_nil, or_false] at hp
  rcases hp with rfl | rfl | rfl
  · exact ⟨h1, e1⟩
  · exact ⟨h2, e2⟩
  · exact ⟨h3, e3⟩
def dgN (alg : Int) (bs : List Int) : Int := triN alX (putI alg) bs
def dgR (alg : Int) (bs : List Int) : Int := if 1 ≤ alg ∧ alg ≤ 9 then dgN alg bs else 0
def tagN (k : Int) (bs : List Int) : Int := triN tgX (eightI k) bs

end Go.Proofs.YtgbjleapaioemaaGreat

namespace Go.Proofs.YtgbjleapaioemaaGreat
open Go.RowKit

/-- The j-th eight bytes of the stream of k. -/
def strmW (k : Int) (j : Nat) : List Int := eightI (triN smX (eightI k) (putI (j : Int)))
def strm (k : Int) : Nat → List Int
  | 0 => []
  | j + 1 => strm k j ++ strmW k j
theorem strm_len (k : Int) (j : Nat) : (strm k j).length = 8 * j := by
  induction j with
  | zero => rfl
  | succ j ih => rw [strm, List.length_append, ih, strmW, eightI_len]; omega
def nblk (n : Nat) : Nat := (n + 7) / 8
def maskL (k : Int) (bs : List Int) : List Int := xorL bs (strm k (nblk bs.length))
def pkN (s : ByteArray) (salt : List Int) (r : Nat) : Int := stepsN (triN psX (strL s) salt) r
theorem pkN_bd (s : ByteArray) (salt : List Int) (r : Nat) : U64 (pkN s salt r) := stepsN_bd _ (triN_bd _ _ _) r
theorem own_nilE (B : Nat) (w : World) : Own B w none 0 0 [] := ⟨World.ownsRow_nil w B 5 1, by simp⟩
theorem own_zeroE (B : Nat) (w : World) (g : Nat) (hg : w.heap.size = g) (h : B ≤ w.heap.size) : Own B (w.alloc (.cells #[] 5)) (some ⟨g, 0, none⟩) 0 0 [] := by
  subst hg
  exact ⟨World.ownsRow_lit w #[] 0 h (by decide) rfl, by simp⟩
def lkP (n s m : Nat) (r : Int) : Prop := n ≤ 4000 ∧ s ≤ 100 ∧ m ≤ 16 ∧ 1 ≤ r ∧ r ≤ 1000

set_option maxRecDepth 10000 in
set_option maxHeartbeats 1000000 in
theorem clone_any (a : Option Addr) (n cap : Nat) (bs : List Int) (w : World) (h : Row w a n bs) (hnil : a = none → cap = 0) (hn : n ≤ 1048576) :
    Calls Tryz.prog 21 #[.slice a n cap] w fun e w' => ∃ a' cap', e = .returned (.slice a' n cap') ∧ Own w.heap.size w' a' n cap' bs ∧ Below w.heap.size w w' := by
  obtain ⟨i0, hi, hz0, hz1, hz2⟩ := info_parts Tryz.info5
  cases a with
  | none =>
    obtain ⟨rfl, rfl⟩ := row_none h
    obtain rfl := hnil rfl
    clear h
    have he : ∀ w : World, (binOp .eql 22 (.slice none 0 0) (.slice none 0 0)).run Tryz.prog w = .ok (.bool true) w := fun _ => rfl
    go_enter Tryz.func21, Tryz.ntmps21
    go_wp2
    go_ret
    exact ⟨none, 0, rfl, own_nilE _ _, Below.refl _ _⟩
  | some ad =>
    have hB1 : Below w.heap.size w (w.alloc (.cells #[] 5)) := (Below.refl _ _).alloc (Nat.le_refl _) _
    have HO : Hid (Own w.heap.size (w.alloc (.cells #[] 5)) (some ⟨w.heap.size, 0, none⟩) 0 0 []) := own_zeroE _ _ _ rfl (Nat.le_refl _)
    have HR : Hid (Row w (some ad) n bs) := h
    clear h
    have he : ∀ w : World, (binOp .eql 22 (.slice (some ad) n cap) (.slice none 0 0)).run Tryz.prog w = .ok (.bool false) w := fun _ => rfl
    go_enter Tryz.func21, Tryz.ntmps21
    go_wp2_with (at_builtin; refine wpList_append_row _ rfl (.tmp 5) (.tmp 6) 22 rfl w.heap.size i0 Tryz.underlying22 hi hz0 hz1 hz2 _ _ _ rfl HO.out.row (some ad) n cap bs rfl (HR.out.kept hB1) hnil (by omega) hB1.size ?_; intro v1 w1 hv1 hg1; obtain ⟨a1, c1, rfl, ho1⟩ := own_appended (xs := []) (ys := bs) hv1 HO.out.byte HR.out.byte; have hb1 : Below w.heap.size w w1 := below_appended hB1 hB1.size HO.out.row hg1)
    go_ret
    have ho1' : Own w.heap.size w1 a1 n c1 bs := by simpa using ho1
    exact ⟨a1, c1, by simp [Array.getD], ho1', hb1⟩

end Go.Proofs.YtgbjleapaioemaaGreat

set_option linter.unusedVariables false
namespace Go.Proofs.YtgbjleapaioemaaGreat
open Go.RowKit Go.Sort

theorem opw_buildSlice {P : Program} {Q : Exit → Act → World → Prop} {o : Oper} {a : Act} {w : World} {K : Act → World → Prop} (t : TypeId) (n : Nat) (parts : Array (Nat × Operand)) (ho : o.op = .buildSlice t n parts) (vs : Array (Nat × Value)) (hvs : (parts.map fun p => (p.1, a.eval p.2)) = vs) (v : Value) (w' : World)
    (hr : (Instr.buildSlice t n vs).run P w = .ok v w') (h : K (a.put o.dst v) w') : o.wp P a w K Q := by
  refine opw_value v ?_ h
  have hvs' : (parts.map fun x : Nat × Operand => match x with | (i, x) => (i, a.eval x)) = vs := hvs
  unfold execOp
  simp only [ho]
  rw [hvs']
  simp [hr]
def RSpec.free2 (S : RSpec) (i d : Nat) : Bool := (List.range S.n).all fun k => k == i || S.slot k != d || (S.pre k).contains i || (S.kill k).contains i
theorem RSpec.free2_of {S : RSpec} {i d : Nat} (h : S.free2 i d = true) {k : Nat} (hk : k < S.n) (hne : k ≠ i) (hs : S.slot k = d) : i ∈ S.pre k ∨ i ∈ S.kill k := by
  have := List.all_eq_true.1 h k (List.mem_range.2 hk)
  simpa [hne, hs] using this
theorem RI.turn {S : RSpec} {D : List Nat} {B : Nat} {w0 : World} {a0 : Act} {l : Nat → Bool} {a : Act} {w : World} (h : RI S D B w0 a0 l a w) (i d : Nat) {v : Value} {w' : World} (hpre : ∀ j ∈ S.pre i, l j = true)
    (hd : D.contains d = true) (hs : d < a0.tmps.size) (hsl : S.slot i = d) (hli : l i = false) (hne : S.free2 i d = true) (hb : Below B w0 w')
    (hst : ∀ k, k < S.n → k ≠ i → l k = true → (∀ j ∈ S.kill k, upd l i j = false) → ∀ u, S.fact k u w → S.fact k u w') (hf : S.fact i v w') : RI S D B w0 a0 (upd l i) (a.put (some d) v) w' := by
  refine ⟨h.fr.put (List.contains_iff_mem.1 hd) v, hb, fun k hk => upd_mono (h.vt k hk), fun k hk hl j hj => ?_, fun k hk hl hkill => ?_⟩
  · by_cases e : k = i
    · subst e
      exact upd_mono (hpre j hj)
    · rw [upd_ne e] at hl
      exact upd_mono (h.cl k hk hl j hj)
  · by_cases e : k = i
    · subst e
      rw [hsl, aT_put_eq (by rw [h.fr.size]; exact hs)]
      exact hf
    · rw [upd_ne e] at hl
      have hsk : S.slot k ≠ d := fun e2 => by
        rcases S.free2_of hne hk e e2 with h1 | h1
        · have := h.cl k hk hl i h1
          rw [hli] at this
          cases this
        · have := hkill i h1
          rw [upd_same] at this
          cases this
      rw [aT_put_ne (Ne.symm hsk)]
      exact hst k hk e hl hkill _ (h.fact k hk hl (fun j hj => of_upd (hkill j hj)))
theorem RI.putp {S : RSpec} {D : List Nat} {B : Nat} {w0 : World} {a0 : Act} {l : Nat → Bool} {a : Act} {w : World} (h : RI S D B w0 a0 l a w) (i d : Nat) {v : Value} {w' : World} (hpre : ∀ j ∈ S.pre i, l j = true)
    (hd : D.contains d = true) (hs : d < a0.tmps.size) (hsl : S.slot i = d) (hli : l i = false) (hne : S.free2 i d = true) (hB : B ≤ w0.heap.size)
    (hst : ∀ k, k < S.n → StB (S.fact k)) (hb : Below w.heap.size w w') (hf : S.fact i v w') : RI S D B w0 a0 (upd l i) (a.put (some d) v) w' :=
  h.turn i d hpre hd hs hsl hli hne (h.bel.trans (hb.mono (Nat.le_trans hB h.bel.size))) (fun k hk _ _ _ u hu => hst k hk _ _ _ hu hb) hf
theorem box_grown {w w' : World} {g t B e s m0 : Nat} {cs : Array Value} {fr : Nat × Nat} {v : Value} {vs : List Value} (h : w.heap[g]? = some (.cells cs t fr)) (hg : w.grownBy w' v.ownBlock) (ho : w.ownsRow B e s v m0 vs) (hne : t ≠ e) : w'.heap[g]? = some (.cells cs t fr) := by
  refine (hg.block g (Array.getElem?_eq_some_iff.1 h).1 (fun e2 => ?_)).trans h
  rcases ho.2 with ⟨rfl, _⟩ | ⟨g', cap, cur, rfl, hb, hgg, _⟩
  · simp [Value.ownBlock] at e2
  · simp [Value.ownBlock] at e2
    subst e2
    rw [h] at hgg
    simp only [Option.some.injEq, Obj.cells.injEq] at hgg
    exact hne hgg.2.1
theorem opw_append_st {P : Program} {o : Oper} {a : Act} {w : World} {K : Act → World → Prop} {Q : Exit → Act → World → Prop}
    (s x : Nat) (t : TypeId) (hop : o.op = Op.call { callee := Callee.builtin Builtin.append, args := #[.tmp s, .tmp x], argTypes := #[t, t] })
    (base : Nat) (e : TypeId) (i : TypeInfo) (z : Value) (size bytes : Nat) (h1 : P.underlying t = some (.slice e)) (h2 : P.info? e = some i) (h3 : i.zero = some z) (h4 : i.size = size) (h5 : i.bytes = bytes) (h6 : z.cells.size = size) (h7 : 0 < size)
    (v : Value) (n : Nat) (xs : List Value) (hs : aT a s = v) (hown : w.ownsRow base e size v n xs)
    (ad : Addr) (m c : Nat) (news : List Value) (hx : aT a x = .slice (some ad) m c) (hl : news.length = m * size) (hnews : ∀ j u, news[j]? = some u → w.cell? (ad.add j) = some u) (hone : ∀ u ∈ news, u.oneCell' = true)
    (b1 : n + m ≤ maxLen) (b2 : (n + m) * bytes ≤ 140737488355328) (b3 : base ≤ w.heap.size)
    (hK : ∀ v' w', w'.ownsRow base e size v' (n + m) (xs ++ news) → w.grownBy w' v.ownBlock → K (a.put o.dst v') w') : o.wp P a w K Q := by
  have hs' : a.eval (.tmp s) = v := hs
  have hx' : a.eval (.tmp x) = .slice (some ad) m c := hx
  obtain ⟨v', w', hrun, r1, r2, _⟩ := run_append_own (P := P) w base t o.type e i z size bytes h1 h2 h3 h4 h5 h6 h7 v n xs hown ad m c news hl hnews hone b1 b2 b3
  unfold Oper.wp
  simp [execOp, hop, resolve, invoke, builtin, hs', hx', hrun, Result.andThen]
  exact hK v' w' r1 r2
theorem opw_store1 {P : Program} {Q : Exit → Act → World → Prop} {o : Oper} {a : Act} {w : World} {K : Act → World → Prop} (ty : TypeId) (x y : Nat) (ho : o.op = .store ty (.tmp x) (.tmp y)) (ad : Addr) (v : Value) (hx : aT a x = .pointer (some ad)) (hy : aT a y = v) (w' : World)
    (hr : (Instr.storeAt ty (.pointer (some ad)) v).run P w = .ok () w') (h : K (a.put o.dst undef) w') : o.wp P a w K Q := by
  have hx' : a.eval (.tmp x) = .pointer (some ad) := hx
  have hy' : a.eval (.tmp y) = v := hy
  unfold Oper.wp execOp
  simp only [ho, hx', hy', Sem.run_bind, hr, Result.andThen_ok, Sem.run_pure]
  exact h
theorem unl {l : Nat → Bool} {j : Nat} (h : l j = true → False) : l j = false := by
  cases e : l j with
  | false => rfl
  | true => exact (h e).elim
theorem OwnG.grown {B B' n c m e s : Nat} {w w' : World} {a : Option Addr} {ps : List Gq} {v : Value} {vs : List Value} (h : OwnG B w a n c ps) (hg : w.grownBy w' v.ownBlock) (ho : w.ownsRow B' e s v m vs) (h1 : 43 ≠ e) (h2 : 5 ≠ e) : OwnG B w' a n c ps :=
  ⟨h.row.kept hg (blocks_apartR h.row ho h1), h.len, fun j hj => ⟨(h.each j hj).row.kept hg (blocks_apartR (h.each j hj).row ho h2), (h.each j hj).byte⟩, h.apart, h.rng⟩
theorem OwnSe.grown {B B' n c m e s : Nat} {w w' : World} {a : Option Addr} {ps : List Sc4} {v : Value} {vs : List Value} (h : OwnSe B w a n c ps) (hg : w.grownBy w' v.ownBlock) (ho : w.ownsRow B' e s v m vs) (h1 : 45 ≠ e) (h2 : 5 ≠ e) : OwnSe B w' a n c ps :=
  ⟨h.row.kept hg (blocks_apartR h.row ho h1), h.rng⟩
theorem OwnSe.touched {B n c g t : Nat} {w w' : World} {a : Option Addr} {ps : List Sc4} {cs : Array Value} {fr : Nat × Nat} (h : OwnSe B w a n c ps) (hg : w.heap[g]? = some (.cells cs t fr)) (h1 : t ≠ 45) (h2 : t ≠ 5) (ht : Touch g (g + 1) w w') : OwnSe B w' a n c ps :=
  ⟨ownsRow_box h.row hg h1 ht, h.rng⟩
theorem cells_of4g {w : World} {g t : Nat} {c0 c1 c2 c3 : Value} (h : w.heap[g]? = some (.cells #[c0, c1, c2, c3] t (0, 0))) : ∀ j u, [c0, c1, c2, c3][j]? = some u → w.cell? ((⟨g, 0, none⟩ : Addr).add j) = some u := fun j u hu => by
  have h1 := cell_of_row w g j _ t (0, 0) h
  rw [Addr.add_lit, Nat.zero_add]
  exact h1.trans (by simpa using hu)
theorem Tryz.infoG : (Tryz.prog.info? 43).map (fun i => (i.zero, i.size, i.bytes)) = some (some (.agg #[.int .u64 0, .int .i64 0, .slice none 0 0, .slice none 0 0]), 4, 64) := by kernel_rfl

/-- What SignMsg answers. -/
structure SmV where
  ct : List Int
  gs : List SgP
  ts : List Sc4
  cd : Int
def smBad (cd : Int) : SmV := ⟨[], [], [], cd⟩
def sgOf (v : NsV) : SgP := ⟨v.k, v.at2, v.sg⟩
def smGo (ws : List Int) (at2 : Int) : List Sc4 → List SgP → List Sc4 → SmV
  | [], gs, ts => ⟨ws, gs, ts, 0⟩
  | s :: r, gs, ts => if (nsV 8 ws at2 s.1 s.2.1 s.2.2.1 s.2.2.2).cd = 0 then smGo ws at2 r (gs ++ [sgOf (nsV 8 ws at2 s.1 s.2.1 s.2.2.1 s.2.2.2)]) (ts ++ [(nsV 8 ws at2 s.1 s.2.1 s.2.2.1 s.2.2.2).t]) else smBad (nsV 8 ws at2 s.1 s.2.1 s.2.2.1 s.2.2.2).cd
def smV (ws : List Int) (at2 : Int) (ss : List Sc4) (n : Nat) : SmV := if ws.length ≤ 4000 ∧ timP at2 ∧ n ≤ 6 then smGo ws at2 ss [] [] else smBad 1
theorem smGo_step (ws : List Int) (at2 : Int) (ss : List Sc4) (k : Nat) (hk : k < ss.length) (gs : List SgP) (ts : List Sc4) (s : Sc4) (hs : s = ss.getD k (0, 0, 0, 0)) (V1 : NsV) (hV : V1 = nsV 8 ws at2 s.1 s.2.1 s.2.2.1 s.2.2.2) :
    smGo ws at2 (ss.drop k) gs ts = if V1.cd = 0 then smGo ws at2 (ss.drop (k + 1)) (gs ++ [sgOf V1]) (ts ++ [V1.t]) else smBad V1.cd := by
  have e : ss.drop k = s :: ss.drop (k + 1) := by
    rw [hs, List.drop_eq_getElem_cons hk]
    simp [hk]
  rw [e, hV]
  rfl
theorem asV_rng (sc x h n : Int) (ms : List Int) (hx : U64 x) : U64 (asV sc x h n ms).k ∧ U64 (asV sc x h n ms).t.2.1 := by
  have z : U64 0 := ⟨by decide, by decide⟩
  unfold asV
  split
  · refine ⟨hashL_bd _, ?_⟩
    unfold saV
    split
    · split
      · exact hx
      · exact hx
    · exact z
  · exact ⟨z, z⟩
theorem asV_len (sc x h n : Int) (ms : List Int) : (asV sc x h n ms).sg.length ≤ 1000 := by
  unfold asV
  split
  · exact saV_len _ _ _ _ _
  · exact Nat.zero_le _
theorem nsV_rng (ws : List Int) (at2 : Int) (s : Sc4) (h : U64 s.2.1) : U64 (nsV 8 ws at2 s.1 s.2.1 s.2.2.1 s.2.2.2).k ∧ U64 (nsV 8 ws at2 s.1 s.2.1 s.2.2.1 s.2.2.2).t.2.1 := by
  have z : U64 0 := ⟨by decide, by decide⟩
  unfold nsV
  split
  · exact asV_rng _ _ _ _ _ h
  · exact ⟨z, z⟩
theorem nsV_len (ws : List Int) (at2 : Int) (s : Sc4) : (nsV 8 ws at2 s.1 s.2.1 s.2.2.1 s.2.2.2).sg.length ≤ 1000 := by
  unfold nsV
  split
  · exact asV_len _ _ _ _ _
  · exact Nat.zero_le _
theorem smGo_small (ws : List Int) (at2 : Int) : ∀ (ss : List Sc4) (gs : List SgP) (ts : List Sc4), (∀ x ∈ gs, x.sg.length ≤ 1000) → gs.length = ts.length → (∀ x ∈ (smGo ws at2 ss gs ts).gs, x.sg.length ≤ 1000) ∧ (smGo ws at2 ss gs ts).gs.length ≤ gs.length + ss.length ∧ (smGo ws at2 ss gs ts).ts.length ≤ gs.length + ss.length ∧ (smGo ws at2 ss gs ts).ct.length ≤ ws.length
  | [], gs, ts, h, hl => ⟨h, Nat.le_add_right _ _, by show ts.length ≤ _; omega, Nat.le_refl _⟩
  | s :: r, gs, ts, h, hl => by
    unfold smGo
    split
    · have := smGo_small ws at2 r (gs ++ [sgOf (nsV 8 ws at2 s.1 s.2.1 s.2.2.1 s.2.2.2)]) (ts ++ [(nsV 8 ws at2 s.1 s.2.1 s.2.2.1 s.2.2.2).t]) (fun x hx => by
        rcases List.mem_append.1 hx with hx | hx
        · exact h x hx
        · rw [List.mem_singleton.1 hx]; exact nsV_len ws at2 s) (by simp [hl])
      refine ⟨this.1, ?_, ?_, this.2.2.2⟩
      · have := this.2.1; simp at this ⊢; omega
      · have := this.2.2.1; simp at this ⊢; omega
    · exact ⟨fun x hx => (by cases hx), Nat.zero_le _, Nat.zero_le _, Nat.zero_le _⟩
theorem smV_small (ws : List Int) (at2 : Int) (ss : List Sc4) (n : Nat) (hn : ss.length = n) : (∀ j, j < (smV ws at2 ss n).gs.length → ((smV ws at2 ss n).gs.getD j default).sg.length ≤ 1048576) ∧ (smV ws at2 ss n).gs.length ≤ 6 ∧ (smV ws at2 ss n).ts.length ≤ 6 ∧ (smV ws at2 ss n).ct.length ≤ 4000 := by
  unfold smV
  split
  · rename_i h
    have := smGo_small ws at2 ss [] [] (fun x hx => by cases hx) rfl
    simp only [List.length_nil, Nat.zero_add] at this
    refine ⟨fun j hj => ?_, by omega, by omega, by omega⟩
    have h1 := this.1 ((smGo ws at2 ss [] []).gs.getD j default) (by rw [List.getD_eq_getElem?_getD, List.getElem?_eq_getElem hj]; exact List.getElem_mem hj)
    omega
  · exact ⟨fun j hj => absurd hj (Nat.not_lt_zero _), Nat.zero_le _, Nat.zero_le _, Nat.zero_le _⟩
def smOut (v : SmV) (a1 : Option Addr) (c1 : Nat) (a2 : Option Addr) (c2 : Nat) (a3 : Option Addr) (c3 : Nat) : Value := .tuple #[.agg #[.slice a1 v.ct.length c1, .slice a2 v.gs.length c2], .slice a3 v.ts.length c3, .int .i64 v.cd]
/-- The memory of what SignMsg answers. -/
structure SmR (B : Nat) (w : World) (ct : List Int) (gs : List SgP) (ts : List Sc4) (a1 : Option Addr) (n1 c1 : Nat) (a2 : Option Addr) (n2 c2 : Nat) (a3 : Option Addr) (n3 c3 : Nat) (ps : List Gq) : Prop where
  cO : Own B w a1 n1 c1 ct
  gO : OwnG B w a2 n2 c2 ps
  gV : gsOf ps = gs
  tO : OwnSe B w a3 n3 c3 ts
  sep : ∀ j l, j < n2 → (rqv (ps.getD j gq0).1).ownBlock = some l → (Value.slice a1 n1 c1).ownBlock = some l → False
theorem SmR.kept {B : Nat} {w w' : World} {ct : List Int} {gs : List SgP} {ts : List Sc4} {a1 : Option Addr} {n1 c1 : Nat} {a2 : Option Addr} {n2 c2 : Nat} {a3 : Option Addr} {n3 c3 : Nat} {ps : List Gq} (h : SmR B w ct gs ts a1 n1 c1 a2 n2 c2 a3 n3 c3 ps) (hb : Below w.heap.size w w') : SmR B w' ct gs ts a1 n1 c1 a2 n2 c2 a3 n3 c3 ps :=
  ⟨h.cO.kept hb, h.gO.kept hb, h.gV, h.tO.kept hb, h.sep⟩
theorem SmR.mono {B B' : Nat} {w : World} {ct : List Int} {gs : List SgP} {ts : List Sc4} {a1 : Option Addr} {n1 c1 : Nat} {a2 : Option Addr} {n2 c2 : Nat} {a3 : Option Addr} {n3 c3 : Nat} {ps : List Gq} (h : SmR B w ct gs ts a1 n1 c1 a2 n2 c2 a3 n3 c3 ps) (hB : B' ≤ B) : SmR B' w ct gs ts a1 n1 c1 a2 n2 c2 a3 n3 c3 ps :=
  ⟨h.cO.mono hB, h.gO.mono hB, h.gV, h.tO.mono hB, h.sep⟩
theorem results_sm {fn : Func} {t u z : Tmp} (h : fn.results = #[.cell t 27, .tmp u, .tmp z]) (tmps : Array Value) (g1 : Nat) (ht : tmps.getD t undef = .pointer (some ⟨g1, 0, none⟩)) (q0 : Value) (hu : tmps.getD u undef = q0) (q : Value) (hz : tmps.getD z undef = q) (w : World) (c1 : Array Value)
    (b1 : w.heap[g1]? = some (.cells c1 27 (0, 0))) (s1 : c1.size = 2) : (results fn tmps).run Tryz.prog w = .ok (.tuple #[.agg c1, q0, q]) w := by
  have i1 : (Tryz.prog.info? 27).map (·.size) = some c1.size := by rw [s1]; kernel_rfl
  have ht' : tmps[t]?.getD undef = .pointer (some ⟨g1, 0, none⟩) := by rw [← ht]; simp
  have hu' : tmps[u]?.getD undef = q0 := by rw [← hu]; simp
  have hz' : tmps[z]?.getD undef = q := by rw [← hz]; simp
  simp [results, h, ht', hu', hz', asAddr, run_loadVar_row w g1 _ _ c1 (0, 0) _ b1 Tryz.underlying27 rfl i1]

end Go.Proofs.YtgbjleapaioemaaGreat

