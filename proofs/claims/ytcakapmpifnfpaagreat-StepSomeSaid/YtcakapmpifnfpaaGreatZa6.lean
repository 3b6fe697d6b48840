/- Texts merged: StInQ, TreQ, EngGQ, AcAQ, ConfBQ, ConfCQ, ConfDQ, CopyQ, AppQ, SlotCQ, SlotDQ, SlotEQ, OpCQ, ThCQ. -/
import Derived.Test.YtcakapmpifnfpaaGreatZa4
import Derived.Test.YtcakapmpifnfpaaGreatZa5
import Derived.Test.YtcakapmpifnfpaaGreatZa3
import Derived.Laws.CopyOwn
import Derived.LoopTactic
import Derived.Lib.Hide
import Derived.Laws.OwnMore
import Derived.Shelf.Abstract
import Derived.Deep.RegionHeld3
/- A state whose lists lie where P says: kept over stores into blocks of which P does not hold. -/
namespace Go.Proofs.YtcakapmpifnfpaaGreat
set_option linter.unusedVariables false
set_option linter.unusedSimpArgs false
open Go.ChangeShapes Go.WideShapes Go.ChangeAt Go.RowKit
/-- A slice that reads as a list, and, unless that is empty, lies in a block of which P holds. -/
structure SlP {α : Type} (P : Nat → Prop) (W : World) (k : Nat) (enc : α → List Value) (xs : List α) (p : Option Addr) (n c : Nat) : Prop where
  s : Sl W k enc xs (.slice p n c)
  i : xs ≠ [] → ∀ a, p = some a → P a.block
theorem Sl.out {α : Type} {W W' : World} {k n c b : Nat} {enc : α → List Value} {xs : List α} {p : Option Addr} (h : Sl W k enc xs (.slice p n c)) (ho : Out [b] W W') (hne : xs ≠ [] → ∀ a, p = some a → a.block ≠ b) : Sl W' k enc xs (.slice p n c) := by
  obtain ⟨q, cap, hv, h1, h2, h3, h4⟩ := h.is
  cases hv
  refine ⟨p, c, rfl, h1, h2, h3, fun hx => ?_⟩
  obtain ⟨g, o, rfl, hg, hc⟩ := h4 hx
  refine ⟨g, o, rfl, Nat.lt_of_lt_of_le hg ho.size, fun i x hi l hl => ?_⟩
  have hb := ho.block g hg (by simpa using hne hx _ rfl)
  rw [← hc i x hi l hl]
  simp [World.cell?, hb]
theorem SlP.kept {α : Type} {P : Nat → Prop} {W W' : World} {k n c : Nat} {enc : α → List Value} {xs : List α} {p : Option Addr} (h : SlP P W k enc xs p n c) (hg : Below W.heap.size W W') : SlP P W' k enc xs p n c := ⟨h.s.kept hg, h.i⟩
theorem SlP.out {α : Type} {P : Nat → Prop} {W W' : World} {k n c b : Nat} {enc : α → List Value} {xs : List α} {p : Option Addr} (h : SlP P W k enc xs p n c) (ho : Out [b] W W') (hb : ¬ P b) : SlP P W' k enc xs p n c := ⟨h.s.out ho (fun hx a ha e => hb (e ▸ h.i hx a ha)), h.i⟩
theorem SlP.mono {α : Type} {P P' : Nat → Prop} {W : World} {k n c : Nat} {enc : α → List Value} {xs : List α} {p : Option Addr} (h : SlP P W k enc xs p n c) (hp : ∀ g, P g → P' g) : SlP P' W k enc xs p n c := ⟨h.s, fun hx a ha => hp _ (h.i hx a ha)⟩
theorem SlP.lt {α : Type} {P : Nat → Prop} {W : World} {k n c : Nat} {enc : α → List Value} {xs : List α} {p : Option Addr} (h : SlP P W k enc xs p n c) : SlP (fun g => P g ∧ g < W.heap.size) W k enc xs p n c := ⟨h.s, fun hx a ha => ⟨h.i hx a ha, by
  obtain ⟨q, cap, hv, _, _, _, h4⟩ := h.s.is
  cases hv
  obtain ⟨g, o, e, hg, _⟩ := h4 hx
  rw [ha] at e; cases e; exact hg⟩⟩
theorem Sl.loc {α : Type} {W : World} {k n c : Nat} {enc : α → List Value} {xs : List α} {p : Option Addr} (h : Sl W k enc xs (.slice p n c)) : SlP (fun g => g < W.heap.size) W k enc xs p n c := ⟨h, fun hx a ha => by
  obtain ⟨q, cap, hv, _, _, _, h4⟩ := h.is
  cases hv
  obtain ⟨g, o, e, hg, _⟩ := h4 hx
  rw [ha] at e; cases e; exact hg⟩
theorem Ow.loc {α : Type} {W : World} {base k n c : Nat} {e : TypeId} {enc : α → List Value} {xs : List α} {p : Option Addr} (he : Enc k enc) (h : Ow W base e k enc xs (.slice p n c)) : SlP (fun g => base ≤ g) W k enc xs p n c := ⟨Ow.sl he h, fun _ a ha => by subst ha; exact (Ow.lt h a.block rfl).1⟩
/-- No list of a state is long. -/
structure St.few (s : St) : Prop where
  sl : s.sl.length ≤ 1000
  sn : s.sn.length ≤ 1000
  rc : s.rc.length ≤ 1000
  fl : s.fl.length ≤ 1000
  el : s.el.length ≤ 1000
  th : s.th.length ≤ 1000
  lg : s.lg.length ≤ 1000
structure StIn (P : Nat → Prop) (W : World) (s : St) (z : Pz) : Prop where
  sl : SlP P W 2 Slo.cells s.sl z.p1 s.sl.length z.k1
  sn : SlP P W 1 intC s.sn z.p2 s.sn.length z.k2
  rc : SlP P W 1 intC s.rc z.p3 s.rc.length z.k3
  fl : SlP P W 1 intC s.fl z.p4 s.fl.length z.k4
  el : SlP P W 1 intC s.el z.p5 s.el.length z.k5
  th : SlP P W 11 Th.cells s.th z.p6 s.th.length z.k6
  lg : SlP P W 5 En.cells s.lg z.p7 s.lg.length z.k7
variable {P P' : Nat → Prop} {W W' : World} {s : St} {z : Pz}
theorem StIn.at (h : StIn P W s z) : StAt W s z := ⟨h.sl.s, h.sn.s, h.rc.s, h.fl.s, h.el.s, h.th.s, h.lg.s⟩
theorem StIn.kept (h : StIn P W s z) (hg : Below W.heap.size W W') : StIn P W' s z := ⟨h.sl.kept hg, h.sn.kept hg, h.rc.kept hg, h.fl.kept hg, h.el.kept hg, h.th.kept hg, h.lg.kept hg⟩
theorem StIn.out {b : Nat} (h : StIn P W s z) (ho : Out [b] W W') (hb : ¬ P b) : StIn P W' s z := ⟨h.sl.out ho hb, h.sn.out ho hb, h.rc.out ho hb, h.fl.out ho hb, h.el.out ho hb, h.th.out ho hb, h.lg.out ho hb⟩
theorem StIn.mono (h : StIn P W s z) (hp : ∀ g, P g → P' g) : StIn P' W s z := ⟨h.sl.mono hp, h.sn.mono hp, h.rc.mono hp, h.fl.mono hp, h.el.mono hp, h.th.mono hp, h.lg.mono hp⟩
theorem StIn.lt (h : StIn P W s z) : StIn (fun g => P g ∧ g < W.heap.size) W s z := ⟨h.sl.lt, h.sn.lt, h.rc.lt, h.fl.lt, h.el.lt, h.th.lt, h.lg.lt⟩
theorem StAt.loc (h : StAt W s z) : StIn (fun g => g < W.heap.size) W s z := ⟨h.sl.loc, h.sn.loc, h.rc.loc, h.fl.loc, h.el.loc, h.th.loc, h.lg.loc⟩
def KP.st (P : Nat → Prop) (r : St) : KP := ⟨fun v W => ∃ z : Pz, v = .agg #[.int .i64 r.cf.lg, .int .i64 r.cf.th, .int .i64 r.cf.po, .int .i64 r.cf.wt, .int .i64 r.cf.sp, .int .i64 r.cf.yi, .bool r.cf.si, .int .i64 r.hd, .int .i64 r.tl, .int .i64 r.md, .slice z.p1 r.sl.length z.k1, .slice z.p2 r.sn.length z.k2, .slice z.p3 r.rc.length z.k3, .int .i64 r.fe, .slice z.p4 r.fl.length z.k4, .int .i64 r.ee, .slice z.p5 r.el.length z.k5, .int .i64 r.nw, .slice z.p6 r.th.length z.k6, .slice z.p7 r.lg.length z.k7] ∧ StIn P W r z, fun ⟨z, e, h⟩ hg => ⟨z, e, h.kept hg⟩⟩
end Go.Proofs.YtcakapmpifnfpaaGreat

/- Lists, threads, states, as abstract values; what memory says of them. -/
namespace Go.Proofs.YtcakapmpifnfpaaGreat
set_option linter.unusedVariables false
set_option linter.unusedSimpArgs false
open Go.RowKit
def slT (x : Slo) : Value := .agg #[.int .i64 x.st, .int .i64 x.vl]
def thT (t : Th) : Value := .agg #[.int .i64 t.st, .int .i64 t.ki, .int .i64 t.va, .int .i64 t.un, .int .i64 t.pc, .int .i64 t.re, .int .i64 t.se, .int .i64 t.tr, .bool t.la, .int .i64 t.rs, .int .i64 t.go]
def enT (e : En) : Value := .agg #[.int .i64 e.th, .int .i64 e.ki, .int .i64 e.va, .int .i64 e.re, .int .i64 e.go]
def cfT (c : Cf) : Value := .agg #[.int .i64 c.lg, .int .i64 c.th, .int .i64 c.po, .int .i64 c.wt, .int .i64 c.sp, .int .i64 c.yi, .bool c.si]
def rowI (l : List Int) : Value := vRow l.length (l.map (.int .i64 ·))
def rowS (l : List Slo) : Value := vRow l.length (l.map slT)
def rowT (l : List Th) : Value := vRow l.length (l.map thT)
def rowE (l : List En) : Value := vRow l.length (l.map enT)
def stT (s : St) : Value := .agg #[.int .i64 s.cf.lg, .int .i64 s.cf.th, .int .i64 s.cf.po, .int .i64 s.cf.wt, .int .i64 s.cf.sp, .int .i64 s.cf.yi, .bool s.cf.si, .int .i64 s.hd, .int .i64 s.tl, .int .i64 s.md, rowS s.sl, rowI s.sn, rowI s.rc, .int .i64 s.fe, rowI s.fl, .int .i64 s.ee, rowI s.el, .int .i64 s.nw, rowT s.th, rowE s.lg]
def wdT (h t m : Int) : Value := .agg #[.int .i64 h, .int .i64 t, .int .i64 m]
def evT (e : Int) (l : List Int) : Value := .agg #[.int .i64 e, rowI l]
section
variable {O : Nat → Prop} {W : World}
/-- A number or a bool. -/
def AtmV (v : Value) : Prop := ∀ (ρ : PMap) (O : Nat → Prop) (W : World) (c : Value), Rp ρ O W v c ↔ c = v
theorem atm_int (k : IntKind) (n : Int) : AtmV (.int k n) := fun _ _ _ _ => rp_int
theorem atm_bool (b : Bool) : AtmV (.bool b) := fun _ _ _ _ => rp_bool
def isAtm : Value → Bool
  | .int _ _ | .bool _ => true
  | _ => false
theorem isAtm_all {xs : List Value} (h : xs.all isAtm = true) : ∀ x ∈ xs, AtmV x := fun x hx => by
  have := List.all_eq_true.1 h x hx
  unfold isAtm at this
  split at this
  · exact atm_int _ _
  · exact atm_bool _
  · cases this
theorem rp_rowG {α : Type} {f : α → Value} {enc : α → List Value} {k : Nat} (hf : ∀ x, (f x).cells = (enc x).toArray) (hk : ∀ x, (enc x).length = k) (ha0 : ∀ x, (enc x).all isAtm = true) {xs : List α} {c : Value} :
    Rp nowhere O W (vRow xs.length (xs.map f)) c ↔ ∃ p cap, c = .slice p xs.length cap ∧ SlP (fun g => ¬ O g) W k enc xs p xs.length cap := by
  have ha : ∀ x, ∀ u ∈ enc x, AtmV u := fun x => isAtm_all (ha0 x)
  unfold vRow
  rw [rp_row]
  have hsz : (xs.map f).toArray.size = xs.length := by simp
  constructor
  · rintro ⟨p, cap, -, -, rfl, h1, h2, h3, h4⟩
    rw [hsz] at h1 h4 ⊢
    refine ⟨p, cap, rfl, ⟨⟨p, cap, rfl, h1, h2, h3, fun hne => ?_⟩⟩, fun hne a hpa => ?_⟩
    · obtain ⟨g, o, k', rfl, hg, hO, hc⟩ := h4 (by cases xs with | nil => exact absurd rfl hne | cons _ _ => simp)
      have hk' : k' = k := by
        cases xs with
        | nil => exact absurd rfl hne
        | cons x r => have := (hc 0 (f x) (by simp)).1; rw [hf] at this; simp [hk] at this; exact this.symm
      subst hk'
      refine ⟨g, o, rfl, hg, fun i x hi j hj => ?_⟩
      obtain ⟨-, hcell⟩ := hc i (f x) (by simp [hi])
      rw [hf] at hcell
      have hj' : j < (enc x).length := by rw [hk]; exact hj
      obtain ⟨u, hu, hr⟩ := hcell j (enc x)[j] (by simp [hj'])
      rw [(ha x _ (List.getElem_mem hj')) nowhere O W u] at hr
      rw [hu, hr, List.getElem?_eq_getElem hj']
    · obtain ⟨g, o, k', hp, hg, hO, hc⟩ := h4 (by cases xs with | nil => exact absurd rfl hne | cons _ _ => simp)
      rw [hpa] at hp; cases hp; exact hO
  · rintro ⟨p, cap, rfl, h1, h2⟩
    obtain ⟨p', cap', he, h3, h4, h5, h6⟩ := h1.is
    cases he
    refine ⟨p, cap, rfl, by simp, by simp, by simpa using h3, h4, h5, fun hne => ?_⟩
    have hx : xs ≠ [] := by intro e; subst e; simp at hne
    obtain ⟨g, o, hp, hg, hc⟩ := h6 hx
    refine ⟨g, o, k, hp, hg, h2 hx _ hp, fun n el hel => ?_⟩
    simp only [List.getElem?_toArray, List.getElem?_map] at hel
    obtain ⟨x, hx', rfl⟩ := Option.map_eq_some_iff.1 hel
    rw [hf]
    refine ⟨by simp [hk], fun j u hu => ?_⟩
    have hu' : (enc x)[j]? = some u := by simpa using hu
    have hj : j < k := by rw [← hk x]; exact (List.getElem?_eq_some_iff.1 hu').1
    refine ⟨u, (hc n x hx' j hj).trans hu', (ha x u (List.mem_of_getElem? hu') nowhere O W u).2 rfl⟩
theorem rp_rowI {l : List Int} {c : Value} : Rp nowhere O W (rowI l) c ↔ ∃ p cap, c = .slice p l.length cap ∧ SlP (fun g => ¬ O g) W 1 intC l p l.length cap :=
  rp_rowG (f := (.int .i64 ·)) (enc := intC) (fun _ => rfl) (fun _ => rfl) (fun _ => rfl)
theorem rp_rowS {l : List Slo} {c : Value} : Rp nowhere O W (rowS l) c ↔ ∃ p cap, c = .slice p l.length cap ∧ SlP (fun g => ¬ O g) W 2 Slo.cells l p l.length cap :=
  rp_rowG (f := slT) (enc := Slo.cells) (fun _ => rfl) (fun _ => rfl) (fun _ => rfl)
theorem rp_rowT {l : List Th} {c : Value} : Rp nowhere O W (rowT l) c ↔ ∃ p cap, c = .slice p l.length cap ∧ SlP (fun g => ¬ O g) W 11 Th.cells l p l.length cap :=
  rp_rowG (f := thT) (enc := Th.cells) (fun _ => rfl) (fun _ => rfl) (fun _ => rfl)
theorem rp_rowE {l : List En} {c : Value} : Rp nowhere O W (rowE l) c ↔ ∃ p cap, c = .slice p l.length cap ∧ SlP (fun g => ¬ O g) W 5 En.cells l p l.length cap :=
  rp_rowG (f := enT) (enc := En.cells) (fun _ => rfl) (fun _ => rfl) (fun _ => rfl)
/-- A struct, cell by cell. -/
def Cells (R : Value → Value → Prop) : List Value → List Value → Prop
  | [], ys => ys = []
  | x :: xs, ys => ∃ y r, ys = y :: r ∧ R x y ∧ Cells R xs r
theorem cells_at {R : Value → Value → Prop} : ∀ {xs ys : List Value}, AtAll R xs.toArray ys.toArray ↔ Cells R xs ys
  | [], ys => by
    constructor
    · intro h; have := h.1; simp at this; exact this
    · intro h; cases h; exact ⟨rfl, fun i x hx => by simp at hx⟩
  | x :: xs, ys => by
    constructor
    · intro h
      match ys, h with
      | [], h => have := h.1; simp at this
      | y :: r, h =>
        obtain ⟨u, hu, hr⟩ := h.2 0 x (by simp)
        simp at hu; subst hu
        exact ⟨y, r, rfl, hr, cells_at.1 ⟨by have := h.1; simpa using this, fun i z hz => by
          obtain ⟨u, hu, hr⟩ := h.2 (i + 1) z (by simpa using hz)
          exact ⟨u, by simpa using hu, hr⟩⟩⟩
    · rintro ⟨y, r, rfl, h1, h2⟩
      have h3 := cells_at.2 h2
      refine ⟨by have := h3.1; simpa using this, fun i z hz => ?_⟩
      cases i with
      | zero => simp at hz; subst hz; exact ⟨y, by simp, h1⟩
      | succ i =>
        obtain ⟨u, hu, hr⟩ := h3.2 i z (by simpa using hz)
        exact ⟨u, by simpa using hu, hr⟩
theorem rp_aggL {ρ : PMap} {xs : List Value} {c : Value} : Rp ρ O W (.agg xs.toArray) c ↔ ∃ ys : List Value, c = .agg ys.toArray ∧ Cells (Rp ρ O W) xs ys := by
  rw [rp_agg]
  constructor
  · rintro ⟨ys, rfl, h⟩; exact ⟨ys.toList, by simp, cells_at.1 (by simpa using h)⟩
  · rintro ⟨ys, rfl, h⟩; exact ⟨ys.toArray, rfl, cells_at.2 h⟩
theorem rp_tupL {ρ : PMap} {xs : List Value} {c : Value} : Rp ρ O W (.tuple xs.toArray) c ↔ ∃ ys : List Value, c = .tuple ys.toArray ∧ Cells (Rp ρ O W) xs ys := by
  rw [rp_tuple]
  constructor
  · rintro ⟨ys, rfl, h⟩; exact ⟨ys.toList, by simp, cells_at.1 (by simpa using h)⟩
  · rintro ⟨ys, rfl, h⟩; exact ⟨ys.toArray, rfl, cells_at.2 h⟩
/-- Structs of numbers and bools are told by themselves. -/
theorem atm_cells : ∀ {xs ys : List Value} {ρ : PMap}, (∀ x ∈ xs, AtmV x) → (Cells (Rp ρ O W) xs ys ↔ ys = xs)
  | [], ys, ρ, _ => Iff.rfl
  | x :: xs, ys, ρ, h => by
    simp only [Cells]
    constructor
    · rintro ⟨y, r, rfl, h1, h2⟩
      rw [h x (by simp) ρ O W y] at h1
      rw [atm_cells fun z hz => h z (by simp [hz])] at h2
      rw [h1, h2]
    · rintro rfl
      exact ⟨x, xs, rfl, (h x (by simp) ρ O W x).2 rfl, (atm_cells fun z hz => h z (by simp [hz])).2 rfl⟩
theorem rp_atm {ρ : PMap} {xs : List Value} (h : ∀ x ∈ xs, AtmV x) {c : Value} : Rp ρ O W (.agg xs.toArray) c ↔ c = .agg xs.toArray := by
  rw [rp_aggL]
  constructor
  · rintro ⟨ys, rfl, h1⟩; rw [atm_cells h] at h1; rw [h1]
  · rintro rfl; exact ⟨xs, rfl, (atm_cells h).2 rfl⟩
theorem rp_thT {ρ : PMap} {t : Th} {c : Value} : Rp ρ O W (thT t) c ↔ c = .agg #[.int .i64 t.st, .int .i64 t.ki, .int .i64 t.va, .int .i64 t.un, .int .i64 t.pc, .int .i64 t.re, .int .i64 t.se, .int .i64 t.tr, .bool t.la, .int .i64 t.rs, .int .i64 t.go] := rp_atm (isAtm_all rfl)
theorem rp_cfT {ρ : PMap} {s : Cf} {c : Value} : Rp ρ O W (cfT s) c ↔ c = .agg #[.int .i64 s.lg, .int .i64 s.th, .int .i64 s.po, .int .i64 s.wt, .int .i64 s.sp, .int .i64 s.yi, .bool s.si] := rp_atm (isAtm_all rfl)
theorem rp_wdT {ρ : PMap} {h t m : Int} {c : Value} : Rp ρ O W (wdT h t m) c ↔ c = .agg #[.int .i64 h, .int .i64 t, .int .i64 m] := rp_atm (isAtm_all rfl)
theorem rp_stT {s : St} {c : Value} : Rp nowhere O W (stT s) c ↔ ∃ z : Pz, c = .agg #[.int .i64 s.cf.lg, .int .i64 s.cf.th, .int .i64 s.cf.po, .int .i64 s.cf.wt, .int .i64 s.cf.sp, .int .i64 s.cf.yi, .bool s.cf.si, .int .i64 s.hd, .int .i64 s.tl, .int .i64 s.md, .slice z.p1 s.sl.length z.k1, .slice z.p2 s.sn.length z.k2, .slice z.p3 s.rc.length z.k3, .int .i64 s.fe, .slice z.p4 s.fl.length z.k4, .int .i64 s.ee, .slice z.p5 s.el.length z.k5, .int .i64 s.nw, .slice z.p6 s.th.length z.k6, .slice z.p7 s.lg.length z.k7] ∧ StIn (fun g => ¬ O g) W s z := by
  unfold stT
  rw [show (#[.int .i64 s.cf.lg, .int .i64 s.cf.th, .int .i64 s.cf.po, .int .i64 s.cf.wt, .int .i64 s.cf.sp, .int .i64 s.cf.yi, .bool s.cf.si, .int .i64 s.hd, .int .i64 s.tl, .int .i64 s.md, rowS s.sl, rowI s.sn, rowI s.rc, .int .i64 s.fe, rowI s.fl, .int .i64 s.ee, rowI s.el, .int .i64 s.nw, rowT s.th, rowE s.lg] : Array Value) = [.int .i64 s.cf.lg, .int .i64 s.cf.th, .int .i64 s.cf.po, .int .i64 s.cf.wt, .int .i64 s.cf.sp, .int .i64 s.cf.yi, .bool s.cf.si, .int .i64 s.hd, .int .i64 s.tl, .int .i64 s.md, rowS s.sl, rowI s.sn, rowI s.rc, .int .i64 s.fe, rowI s.fl, .int .i64 s.ee, rowI s.el, .int .i64 s.nw, rowT s.th, rowE s.lg].toArray from rfl, rp_aggL]
  constructor
  · rintro ⟨ys, rfl, _, _, rfl, h0, _, _, rfl, h1, _, _, rfl, h2, _, _, rfl, h3, _, _, rfl, h4, _, _, rfl, h5, _, _, rfl, h6, _, _, rfl, h7, _, _, rfl, h8, _, _, rfl, h9, _, _, rfl, h10, _, _, rfl, h11, _, _, rfl, h12, _, _, rfl, h13, _, _, rfl, h14, _, _, rfl, h15, _, _, rfl, h16, _, _, rfl, h17, _, _, rfl, h18, _, _, rfl, h19, rfl⟩
    rw [rp_int] at h0 h1 h2 h3 h4 h5 h7 h8 h9 h13 h15 h17
    rw [rp_bool] at h6
    obtain ⟨p1, k1, rfl, s1⟩ := rp_rowS.1 h10
    obtain ⟨p2, k2, rfl, s2⟩ := rp_rowI.1 h11
    obtain ⟨p3, k3, rfl, s3⟩ := rp_rowI.1 h12
    obtain ⟨p4, k4, rfl, s4⟩ := rp_rowI.1 h14
    obtain ⟨p5, k5, rfl, s5⟩ := rp_rowI.1 h16
    obtain ⟨p6, k6, rfl, s6⟩ := rp_rowT.1 h18
    obtain ⟨p7, k7, rfl, s7⟩ := rp_rowE.1 h19
    exact ⟨⟨p1, k1, p2, k2, p3, k3, p4, k4, p5, k5, p6, k6, p7, k7⟩, by rw [h0, h1, h2, h3, h4, h5, h6, h7, h8, h9, h13, h15, h17], ⟨s1, s2, s3, s4, s5, s6, s7⟩⟩
  · rintro ⟨z, rfl, h⟩
    exact ⟨_, rfl, _, _, rfl, rp_int.2 rfl, _, _, rfl, rp_int.2 rfl, _, _, rfl, rp_int.2 rfl, _, _, rfl, rp_int.2 rfl, _, _, rfl, rp_int.2 rfl, _, _, rfl, rp_int.2 rfl, _, _, rfl, rp_bool.2 rfl, _, _, rfl, rp_int.2 rfl, _, _, rfl, rp_int.2 rfl, _, _, rfl, rp_int.2 rfl, _, _, rfl, rp_rowS.2 ⟨_, _, rfl, h.sl⟩, _, _, rfl, rp_rowI.2 ⟨_, _, rfl, h.sn⟩, _, _, rfl, rp_rowI.2 ⟨_, _, rfl, h.rc⟩, _, _, rfl, rp_int.2 rfl, _, _, rfl, rp_rowI.2 ⟨_, _, rfl, h.fl⟩, _, _, rfl, rp_int.2 rfl, _, _, rfl, rp_rowI.2 ⟨_, _, rfl, h.el⟩, _, _, rfl, rp_int.2 rfl, _, _, rfl, rp_rowT.2 ⟨_, _, rfl, h.th⟩, _, _, rfl, rp_rowE.2 ⟨_, _, rfl, h.lg⟩, rfl⟩
/-- The arguments of a call. -/
theorem args_of {R : Value → Value → Prop} {xs : List Value} {vs : Array Value} (h : AtAll R xs.toArray vs) : ∃ ys : List Value, vs = ys.toArray ∧ Cells R xs ys := ⟨vs.toList, by simp, cells_at.1 (by simpa using h)⟩
end
end Go.Proofs.YtcakapmpifnfpaaGreat

/- THE ENGINE, 13: a loop, round by round. -/
namespace Go.Proofs.YtcakapmpifnfpaaGreat
set_option linter.unusedVariables false
set_option linter.unusedSimpArgs false
open Go.RowKit
theorem an {a b : Prop} (h : a) (k : b) : a ∧ b := ⟨h, k⟩
/-- The body of a loop of a function: the number k of them, in the order of the text, those that hold others first. -/
def loops : Code → List Code
  | .loop a => a :: loops a
  | .seq a b => loops a ++ loops b
  | .cond _ a b => loops a ++ loops b
  | .block _ a => loops a
  | .rangeFunc _ _ a b => loops a ++ loops b
  | .scope a => loops a
  | _ => []
def loopOf (P : Program) (g : FuncId) (k : Nat) : Code :=
  match P.funcs[g]? with
  | some fn => match fn.body with
    | some c => ((loops c)[k]?).getD .skip
    | none => .skip
  | none => .skip
/-- The regions of a function that draw their order, in the order of the text. -/
def regions : Code → List Code
  | .region id ops true => [.region id ops true]
  | .loop a => regions a
  | .seq a b => regions a ++ regions b
  | .cond _ a b => regions a ++ regions b
  | .block _ a => regions a
  | .scope a => regions a
  | _ => []
def regOf (P : Program) (g : FuncId) (k : Nat) : Code :=
  match P.funcs[g]? with
  | some fn => match fn.body with
    | some c => ((regions c)[k]?).getD .skip
    | none => .skip
  | none => .skip
/-- One round: how it ends, what is known then, what is asked. -/
def evRound (P : Program) (ext : List FuncId) (fuel n : Nat) (im keep : List Nat) (c : Code) (s : Sg) (orc : List Value) : Option (Exit × Sg × Prop) :=
  match evCode P ext (evFn P ext fuel n) fuel c s orc with
  | some (x, s1, [], ob) => (canon im keep s1).map fun s2 => (x, s2, conj ob)
  | _ => none
section
variable {P : Program}
theorem loop_more (hm : P.follows .mixedOrders = true) {ext : List FuncId} {fuel n : Nat} {im keep : List Nat} {c : Code} {s s1 s' : Sg} {orc : List Value} {x : Exit} {A : Prop} (hA : A) (h : evRound P ext fuel n im keep c s orc = some (.normal, s1, A)) (hL : LoopP P c s1 x s') : LoopP P c s x s' := by
  unfold evRound at h
  split at h
  · next x1 s2 ob hev =>
    obtain ⟨s3, hc, he⟩ := Option.map_eq_some_iff.1 h
    cases he
    obtain ⟨m, hm'⟩ := hL
    refine ⟨m + 1, fun ρ O a W Q hH hT hK => ?_⟩
    rw [rounds_succ]
    refine evCode_ok hm (evFn_ok hm n) c hev hA ρ O a W _ hH hT fun ρ' O' a' W' hH' hT' hE => ?_
    obtain ⟨h1, h2, h3, -⟩ := canon_ok hc hH' hT'
    exact hm' _ _ _ _ Q h1 h2 fun ρ'' O'' a'' W'' h4 h5 h6 => hK ρ'' O'' a'' W'' h4 h5 ((hE.toL hH).trans (h3.trans h6 hH'.low) hH.low)
  · cases h
theorem loop_end (hm : P.follows .mixedOrders = true) {ext : List FuncId} {fuel n : Nat} {im keep : List Nat} {c : Code} {s s1 : Sg} {orc : List Value} {x : Exit} {A : Prop} (hA : A) (hx : x ≠ .normal) (h : evRound P ext fuel n im keep c s orc = some (x, s1, A)) : LoopP P c s x s1 := by
  unfold evRound at h
  split at h
  · next x1 s2 ob hev =>
    obtain ⟨s3, hc, he⟩ := Option.map_eq_some_iff.1 h
    cases he
    refine ⟨1, fun ρ O a W Q hH hT hK => ?_⟩
    rw [rounds_succ]
    refine evCode_ok hm (evFn_ok hm n) c hev hA ρ O a W _ hH hT fun ρ' O' a' W' hH' hT' hE => ?_
    obtain ⟨h1, h2, h3, -⟩ := canon_ok hc hH' hT'
    have := hK _ _ a' W' h1 h2 ((hE.toL hH).trans h3 hH.low)
    cases x with
    | normal => exact absurd rfl hx
    | _ => exact this
  · cases h
theorem goto_more (hm : P.follows .mixedOrders = true) {ext : List FuncId} {fuel n l : Nat} {im keep : List Nat} {c : Code} {s s1 s' : Sg} {orc : List Value} {x : Exit} {A : Prop} (hA : A) (h : evRound P ext fuel n im keep c s orc = some (.goto l, s1, A)) (hL : GotoP P l c s1 x s') : GotoP P l c s x s' := by
  unfold evRound at h
  split at h
  · next x1 s2 ob hev =>
    obtain ⟨s3, hc, he⟩ := Option.map_eq_some_iff.1 h
    cases he
    obtain ⟨m, hm'⟩ := hL
    refine ⟨m + 1, fun ρ O a W Q hH hT hK => evCode_ok hm (evFn_ok hm n) c hev hA ρ O a W _ hH hT fun ρ' O' a' W' hH' hT' hE => ?_⟩
    obtain ⟨h1, h2, h3, -⟩ := canon_ok hc hH' hT'
    exact ⟨rfl, hm' _ _ _ _ Q h1 h2 fun ρ'' O'' a'' W'' h4 h5 h6 => hK ρ'' O'' a'' W'' h4 h5 ((hE.toL hH).trans (h3.trans h6 hH'.low) hH.low)⟩
  · cases h
theorem goto_end (hm : P.follows .mixedOrders = true) {ext : List FuncId} {fuel n l : Nat} {im keep : List Nat} {c : Code} {s s1 : Sg} {orc : List Value} {x : Exit} {A : Prop} (hA : A) (hx : ∀ l', x ≠ .goto l') (h : evRound P ext fuel n im keep c s orc = some (x, s1, A)) : GotoP P l c s x s1 := by
  unfold evRound at h
  split at h
  · next x1 s2 ob hev =>
    obtain ⟨s3, hc, he⟩ := Option.map_eq_some_iff.1 h
    cases he
    refine ⟨1, fun ρ O a W Q hH hT hK => evCode_ok hm (evFn_ok hm n) c hev hA ρ O a W _ hH hT fun ρ' O' a' W' hH' hT' hE => ?_⟩
    obtain ⟨h1, h2, h3, -⟩ := canon_ok hc hH' hT'
    have := hK _ _ a' W' h1 h2 ((hE.toL hH).trans h3 hH.low)
    cases x with
    | goto l' => exact absurd rfl (hx l')
    | _ => exact this
  · cases h
/-- What stands behind the label of a function's scope. -/
def gotoOf (P : Program) (g : FuncId) : Code :=
  match P.funcs[g]? with
  | some fn => match fn.body with
    | some (.seq _ (.scope c)) => match lbl c with
      | some (_, r) => r
      | none => .skip
    | _ => .skip
  | none => .skip
def idN (K : Nat) (im : List Nat) (n : Nat) : Bool := Nat.ble K n && (List.range K).all fun k => im[k]? == some k
theorem idN_ok {K n : Nat} {im : List Nat} (h : idN K im n = true) : K ≤ n ∧ ∀ k, k < K → im[k]? = some k := by
  simp only [idN, Bool.and_eq_true, Nat.ble_eq] at h
  exact ⟨h.1, fun k hk => by simpa using List.all_eq_true.1 h.2 k (List.mem_range.2 hk)⟩
theorem same_num {ρ ρ' : PMap} {O O' : Nat → Prop} {H H' : List (Option Blk)} {W W' : World} (hE : Ext ρ O H W ρ' O' H' W') {k : Nat} (hk : k < H.length) : ρ' k = ρ k := by
  cases h : ρ k with
  | some p => exact hE.sub k p h
  | none =>
    cases h' : ρ' k with
    | none => rfl
    | some p =>
      rcases hE.new k p h' with h1 | ⟨h1, -⟩
      · rw [h] at h1; cases h1
      · omega
theorem can_num {ρ ρ' : PMap} {O O' : Nat → Prop} {H H' : List (Option Blk)} {W W' : World} (hE : Ext ρ O H W ρ' O' H' W') {K : Nat} {im : List Nat} (h : idN K im H.length = true) {k : Nat} (hk : k < K) : canR ρ' im k = ρ k := by
  obtain ⟨h1, h2⟩ := idN_ok h
  unfold canR
  rw [h2 k hk]
  exact same_num hE (by omega)
theorem loopK_more (hm : P.follows .mixedOrders = true) {ext : List FuncId} {fuel n K : Nat} {im keep : List Nat} {c : Code} {s s1 s' : Sg} {orc : List Value} {x : Exit} {A : Prop} (hA : A) (h : evRound P ext fuel n im keep c s orc = some (.normal, s1, A)) (hi : idN K im s.H.length = true) (hL : LoopK P K c s1 x s') : LoopK P K c s x s' := by
  unfold evRound at h
  split at h
  · next x1 s2 ob hev =>
    obtain ⟨s3, hc, he⟩ := Option.map_eq_some_iff.1 h
    cases he
    obtain ⟨m, hm'⟩ := hL
    refine ⟨m + 1, fun ρ O a W Q hH hT hK => ?_⟩
    rw [rounds_succ]
    refine evCode_ok hm (evFn_ok hm n) c hev hA ρ O a W _ hH hT fun ρ' O' a' W' hH' hT' hE => ?_
    obtain ⟨h1, h2, h3, -⟩ := canon_ok hc hH' hT'
    exact hm' _ _ _ _ Q h1 h2 fun ρ'' O'' a'' W'' h4 h5 h6 h7 => hK ρ'' O'' a'' W'' h4 h5 ((hE.toL hH).trans (h3.trans h6 hH'.low) hH.low) fun k hk => (h7 k hk).trans (can_num hE hi hk)
  · cases h
theorem loopK_end (hm : P.follows .mixedOrders = true) {ext : List FuncId} {fuel n K : Nat} {im keep : List Nat} {c : Code} {s s1 : Sg} {orc : List Value} {x : Exit} {A : Prop} (hA : A) (hx : x ≠ .normal) (h : evRound P ext fuel n im keep c s orc = some (x, s1, A)) (hi : idN K im s.H.length = true) : LoopK P K c s x s1 := by
  unfold evRound at h
  split at h
  · next x1 s2 ob hev =>
    obtain ⟨s3, hc, he⟩ := Option.map_eq_some_iff.1 h
    cases he
    refine ⟨1, fun ρ O a W Q hH hT hK => ?_⟩
    rw [rounds_succ]
    refine evCode_ok hm (evFn_ok hm n) c hev hA ρ O a W _ hH hT fun ρ' O' a' W' hH' hT' hE => ?_
    obtain ⟨h1, h2, h3, -⟩ := canon_ok hc hH' hT'
    have := hK _ _ a' W' h1 h2 ((hE.toL hH).trans h3 hH.low) fun k hk => can_num hE hi hk
    cases x with
    | normal => exact absurd rfl hx
    | _ => exact this
  · cases h
/-- A call that hands back a struct with a slice of its own at place pos. -/
def evRunO (P : Program) (ext : List FuncId) (fuel n : Nat) (g : FuncId) (args orc : List Value) (pos : Nat) : Option (List Value × Nat × Prop) :=
  match evFn P ext fuel n g args [] orc with
  | some (.agg xs, H, [], ob) => match xs.toList[pos]? with
    | some (.slice (some ⟨i, 0, some 0⟩) m _) => match look H i with
      | some b => match lendL (lendA (look H)) (xs.toList.set pos (.slice none 0 0)) with
        | some (al, is, ps) => if is.all (fun i => (look H i).isSome) && !(is.any fun j => j == i) && b.arr then some (al.set pos (vRow b.n b.els), b.k, conj (ob ++ (m = b.n ∧ m = b.els.length) :: ps)) else none
        | none => none
      | none => none
    | _ => none
  | _ => none
theorem ao_path (hm : P.follows .mixedOrders = true) {ext : List FuncId} {fuel n : Nat} {g : FuncId} {args orc : List Value} {pos k : Nat} {cs : List Value} {A : Prop} (hA : A) (h : evRunO P ext fuel n g args orc pos = some (cs, k, A)) : AO P g args cs.toArray pos k := by
  unfold evRunO at h
  split at h
  · next xs H ob hev =>
    split at h
    · next i m m' hp =>
      split at h
      · next b hb =>
        split at h
        · next al is ps hl =>
          split at h
          · next hc =>
            cases h
            simp only [Bool.and_eq_true, Bool.not_eq_true'] at hc
            obtain ⟨⟨his, hni⟩, hba⟩ := hc
            obtain ⟨hb1, ⟨hmn, hme⟩, hb2⟩ := conj_append.1 hA
            subst hmn
            intro O W vs hlow hat
            have hH : HConc nowhere O [] W := ⟨hlow, fun _ _ => rfl, fun i => by simp [look, HAt], fun i j b b' g k k' h1 => by simp [look] at h1⟩
            refine (evFn_ok hm n _ _ _ _ _ _ _ _ hev hb1 nowhere O W vs hH hat).mono ?_
            rintro e W' ⟨c, ρ', O', rfl, hr, hH', hE⟩
            obtain ⟨us, rfl, hau⟩ := rp_agg.1 hr
            have hpl : pos < xs.toList.length := (List.getElem?_eq_some_iff.1 hp).1
            obtain ⟨u, hu, hru⟩ := hau.2 pos _ (by simpa using hp)
            obtain ⟨g0, k0, cap, h1, ⟨⟨h2, h2'⟩, h3⟩, rfl⟩ := rp_own.1 hru
            have h1' : ρ' i = some (g0, k0) := h1
            have hhp := hH'.hp i
            rw [hb] at hhp
            obtain ⟨g1, h4, hO', hB⟩ := hhp
            rw [h1'] at h4; cases h4
            simp only [Nat.zero_mul, Nat.zero_add] at h3 hu
            have fresh : ∀ j p, ρ' j = some p → W.heap.size ≤ p.1 := fun j p hj => by
              rcases hE.new j _ hj with h5 | ⟨-, h5 | ⟨m, bm, km, h5, -⟩⟩
              · cases h5
              · exact h5
              · simp [look] at h5
            have hkeep : ∀ g, O g → O' g := fun g hg => hE.keepO g hg fun i b hb => by simp [look] at hb
            have hstU : Still (Unlent ρ' O' is) W' (fun g => O g ∨ g = g0) W' := by
              refine ⟨Nat.le_refl _, fun g hg hn => ⟨fun h6 => hn ?_, rfl⟩, Shp.of_same fun _ _ => rfl⟩
              rcases h6 with h6 | rfl
              · refine ⟨hkeep g h6, fun j _ q hq => ?_⟩
                have := hlow g h6
                have := fresh j _ hq
                simp at this; omega
              · refine ⟨hO', fun j hj q hq => ?_⟩
                obtain ⟨bj, hbj⟩ := Option.isSome_iff_exists.1 (List.all_eq_true.1 his j hj)
                have := hH'.inj j i bj b g q _ hbj hb hq h1'
                subst this
                have h7 : (is.any fun y => y == j) = true := List.any_eq_true.2 ⟨j, hj, by simp⟩
                rw [hni] at h7; cases h7
            have hset : AtAll (Rp ρ' O' W') (xs.toList.set pos (.slice none 0 0)).toArray (us.toList.set pos (.slice none 0 0)).toArray := by
              refine ⟨by simpa using hau.1, fun j x hx => ?_⟩
              simp only [List.getElem?_toArray, List.getElem?_set] at hx ⊢
              have hsz : us.toList.length = xs.toList.length := by simpa using hau.1
              split at hx
              · next e =>
                subst e
                rw [if_pos rfl, hsz, if_pos hpl]
                cases hx
                exact ⟨_, rfl, rp_nils.2 ⟨rfl, rfl, rfl⟩⟩
              · next e =>
                rw [if_neg e]
                obtain ⟨y, hy, hr'⟩ := hau.2 j x (by simpa using hx)
                exact ⟨y, by simpa using hy, hr'⟩
            have h5 := lendL_ok (H := look H) (fun v v' c is ob => lendA_ok) hl hb2 hset (fun j _ => hH'.hp j)
            have hlen : al.length = us.toList.length := by have := h5.1; simpa using this.symm
            refine ⟨us, g0, b.n, b.els, cap, rfl, by simpa using hlen.symm, ⟨hE.str.2.1, hE.str.1, hE.str.2.2, hE.still.size, fun g hg => hE.blk g hg fun i b hb => by simp [look] at hb⟩, by have := fresh i _ h1'; simpa using this, ?_, h2, ⟨h2', h3⟩, by simpa using hu, ?_, fun j x hj hx => ?_⟩
            · have hlt : pos < al.length := by rw [hlen]; have : us.toList.length = xs.toList.length := by simpa using hau.1
                                               omega
              simp [List.getElem?_set, hlt, vRow]
            · have hpm : ∀ r : PMap, b.pm r = nowhere := fun r => by unfold Blk.pm; rw [hba]
              obtain ⟨arr, ty, h6, h7, h8⟩ := (blk_cells (arr_noMap hba)).1 hB
              rw [hpm] at h8
              refine (blk_cells (arr_noMap rfl)).2 ⟨arr, ty, h6, by simpa using h7, fun q el hq => ?_⟩
              obtain ⟨h9, h10⟩ := h8 q el (by simpa using hq)
              refine ⟨h9, fun j x hx => ?_⟩
              obtain ⟨y, hy, hr'⟩ := h10 j x hx
              refine ⟨y, hy, hr'.mono ⟨Nat.le_refl _, fun g hg hn => ⟨fun h11 => hn ?_, rfl⟩, Shp.of_same fun _ _ => rfl⟩ (Sub.refl _)⟩
              rcases h11 with h11 | rfl
              · exact hkeep g h11
              · exact hO'
            · rw [List.getElem?_toArray, List.getElem?_set, if_neg (Ne.symm hj)] at hx
              obtain ⟨y, hy, hr'⟩ := h5.2 j x (by simpa using hx)
              rw [List.getElem?_toArray, List.getElem?_set, if_neg (Ne.symm hj)] at hy
              exact ⟨y, by simpa using hy, hr'.mono hstU (Sub.refl _)⟩
          · cases h
        · cases h
      · cases h
    · cases h
  · cases h
end
end Go.Proofs.YtcakapmpifnfpaaGreat

/- Contracts told by abstract values: threads put, and what a step does to them. -/
namespace Go.Proofs.YtcakapmpifnfpaaGreat
set_option linter.unusedVariables false
set_option linter.unusedSimpArgs false
open Go.RowKit
theorem mixed : Tryz.prog.follows .mixedOrders = true := by kernel_rfl
theorem rowT_el {l : List Th} {n : Nat} (h : n < l.length) : IxP ((l.map thT).toArray) (n : Int) (thT (gth l n)) := ⟨by omega, by simp [gth_eq h, h]⟩
theorem allK_map {α : Type} {f : α → Value} {k : Nat} (h : ∀ x, (f x).cells.size = k ∧ (f x).cells.toList.all leafB = true) (l : List α) : AllK k (l.map f) := fun el hel => by
  obtain ⟨x, -, rfl⟩ := List.mem_map.1 hel
  exact h x
theorem allK_I (l : List Int) : AllK 1 (l.map (.int .i64 ·)) := allK_map (f := (Value.int .i64 ·)) (fun _ => ⟨rfl, rfl⟩) l
theorem allK_S (l : List Slo) : AllK 2 (l.map slT) := allK_map (f := slT) (fun _ => ⟨rfl, rfl⟩) l
theorem allK_T (l : List Th) : AllK 11 (l.map thT) := allK_map (f := thT) (fun _ => ⟨rfl, rfl⟩) l
theorem allK_E (l : List En) : AllK 5 (l.map enT) := allK_map (f := enT) (fun _ => ⟨rfl, rfl⟩) l
theorem app_nil {α : Type} {f : α → Value} {l : List α} (h : l ≠ []) (hm : l.length ≤ 1000000) : 0 < l.length ∧ AppP l.length (l.map f) 0 [] l.length (l.map f) :=
  ⟨List.length_pos_iff.2 h, by simp, by simp, by omega⟩
theorem len_map {α : Type} {f : α → Value} (l : List α) : LenP l.length l.length (l.map f) := ⟨by simp, by simp⟩
theorem idT {n : Nat} {l : List Th} (h : n < l.length) : 0 ≤ (n : Int) ∧ (n : Int).toNat < l.length := ⟨by omega, by simpa using h⟩
theorem elT {n : Nat} {l : List Th} (h : n < l.length) : ElP (l.map thT) (0 + (n : Int).toNat) (thT (gth l n)) := by simp [ElP, gth_eq h, h]
theorem setT (l : List Th) (n : Nat) (t : Th) : (l.set n t).map thT = (l.map thT).set (0 + (n : Int).toNat) (thT t) := by simp [List.map_set]
theorem calls_of {g : FuncId} {args : List Value} {vs : Array Value} {W : World} {b : Bool} (h : AC Tryz.prog g args (.bool b)) (hv : AtAll (Rp nowhere (fun _ => False) W) args.toArray vs) : Calls Tryz.prog g vs W fun e W' => e = .returned (.bool b) ∧ Kept W W' := by
  refine (h (fun _ => False) W vs (fun g hg => hg.elim) hv).mono ?_
  rintro e W' ⟨c, rfl, hr, hk⟩
  rw [rp_bool] at hr
  exact ⟨by rw [hr], hk⟩
theorem st_free {W : World} {s : St} {z : Pz} (h : StAt W s z) : Rp nowhere (fun _ => False) W (stT s) (.agg #[.int .i64 s.cf.lg, .int .i64 s.cf.th, .int .i64 s.cf.po, .int .i64 s.cf.wt, .int .i64 s.cf.sp, .int .i64 s.cf.yi, .bool s.cf.si, .int .i64 s.hd, .int .i64 s.tl, .int .i64 s.md, .slice z.p1 s.sl.length z.k1, .slice z.p2 s.sn.length z.k2, .slice z.p3 s.rc.length z.k3, .int .i64 s.fe, .slice z.p4 s.fl.length z.k4, .int .i64 s.ee, .slice z.p5 s.el.length z.k5, .int .i64 s.nw, .slice z.p6 s.th.length z.k6, .slice z.p7 s.lg.length z.k7]) := rp_stT.2 ⟨z, rfl, h.loc.mono fun _ _ h => h⟩
end Go.Proofs.YtcakapmpifnfpaaGreat

/- Layer 2: a bound, and the iterator that gives all of a layout's, one by one. -/
namespace Go.Proofs.YtcakapmpifnfpaaGreat
set_option linter.unusedVariables false
set_option linter.unusedSimpArgs false
open Go.ChangeShapes Go.WideShapes Go.ChangeAt Go.RowKit Go.Shelf
attribute [local go_sem] Oper.semAt_some

theorem within_any (n low high : Int) (w : World) :
    Calls Tryz.prog 46 #[.agg #[.int .i64 n, .int .i64 low, .int .i64 high]] w fun e w' => e = .returned (.bool (inB n low high)) ∧ Kept w w' := by
  go_enter Tryz.func46, Tryz.ntmps46
  go_wp2
  all_goals (go_ret; exact ⟨ret_bool (by first | (rw [Bool.eq_iff_iff]; simp [inB]; omega) | (simp [inB, *]; done) | (simp [inB, *]; omega) | (simp [inB, *]; intros; omega)), by repeat' (first | (with_reducible exact Below.refl _ _) | (with_reducible assumption) | (with_reducible refine kept_alloc ?_ _) | (with_reducible refine kept_drewN ?_ _) | (with_reducible refine Below.drew ?_) | (with_reducible refine Below.setCell ?_ (by first | omega | (simp; omega) | (simp; done)) _) | (refine kept_trans ?_ (by with_reducible assumption)))⟩)

set_option maxRecDepth 100000 in
set_option maxHeartbeats 4000000 in
theorem bounds_iter (lg th po wt sp yi : Int) (si : Bool) (n₀ : Nat) (w : World) :
    Iter Tryz.prog 45 #[.agg #[.int .i64 lg, .int .i64 th, .int .i64 po, .int .i64 wt, .int .i64 sp, .int .i64 yi, .bool si]] #[] Bd.val n₀ (bdsL lg th po wt sp yi) w := by
  intro l J Jx W hW hJ hJx hY h0
  refine (callsIn_wide (n := 10)).1 ?_
  refine callsIn_of_wp Tryz.func45 rfl trivial ?_
  simp only [Tryz.ntmps45, List.size_toArray, List.length_cons, List.length_nil, Nat.reduceAdd, Nat.reduceSub, Array.replicate_succ, Array.replicate_zero, List.push_toArray, List.append_toArray, List.nil_append, List.cons_append]
  by_cases hwt : wt = 2
  · subst hwt
    (have hL : Hid (bdsL lg th po 2 sp yi = [⟨lg, 1, 6⟩, ⟨th, 1, 16⟩, ⟨po, 0, 2⟩, ⟨2, 0, 3⟩, ⟨sp, 0, 8⟩, ⟨yi, 0, 8⟩]) := Lib.hid (by simp [bdsL, triesI, triesI]); have x0 : ∀ w : World, (Instr.index 105 (.agg #[.int .i64 lg, .int .i64 1, .int .i64 6, .int .i64 th, .int .i64 1, .int .i64 16, .int .i64 po, .int .i64 0, .int .i64 2, .int .i64 2, .int .i64 0, .int .i64 3, .int .i64 sp, .int .i64 0, .int .i64 8, .int .i64 yi, .int .i64 0, .int .i64 8]) (.int .i64 0)).run Tryz.prog w = .ok (.agg #[.int .i64 lg, .int .i64 1, .int .i64 6]) w := fun _ => (by kernel_rfl); have x1 : ∀ w : World, (Instr.index 105 (.agg #[.int .i64 lg, .int .i64 1, .int .i64 6, .int .i64 th, .int .i64 1, .int .i64 16, .int .i64 po, .int .i64 0, .int .i64 2, .int .i64 2, .int .i64 0, .int .i64 3, .int .i64 sp, .int .i64 0, .int .i64 8, .int .i64 yi, .int .i64 0, .int .i64 8]) (.int .i64 1)).run Tryz.prog w = .ok (.agg #[.int .i64 th, .int .i64 1, .int .i64 16]) w := fun _ => (by kernel_rfl); have x2 : ∀ w : World, (Instr.index 105 (.agg #[.int .i64 lg, .int .i64 1, .int .i64 6, .int .i64 th, .int .i64 1, .int .i64 16, .int .i64 po, .int .i64 0, .int .i64 2, .int .i64 2, .int .i64 0, .int .i64 3, .int .i64 sp, .int .i64 0, .int .i64 8, .int .i64 yi, .int .i64 0, .int .i64 8]) (.int .i64 2)).run Tryz.prog w = .ok (.agg #[.int .i64 po, .int .i64 0, .int .i64 2]) w := fun _ => (by kernel_rfl); have x3 : ∀ w : World, (Instr.index 105 (.agg #[.int .i64 lg, .int .i64 1, .int .i64 6, .int .i64 th, .int .i64 1, .int .i64 16, .int .i64 po, .int .i64 0, .int .i64 2, .int .i64 2, .int .i64 0, .int .i64 3, .int .i64 sp, .int .i64 0, .int .i64 8, .int .i64 yi, .int .i64 0, .int .i64 8]) (.int .i64 3)).run Tryz.prog w = .ok (.agg #[.int .i64 2, .int .i64 0, .int .i64 3]) w := fun _ => (by kernel_rfl); have x4 : ∀ w : World, (Instr.index 105 (.agg #[.int .i64 lg, .int .i64 1, .int .i64 6, .int .i64 th, .int .i64 1, .int .i64 16, .int .i64 po, .int .i64 0, .int .i64 2, .int .i64 2, .int .i64 0, .int .i64 3, .int .i64 sp, .int .i64 0, .int .i64 8, .int .i64 yi, .int .i64 0, .int .i64 8]) (.int .i64 4)).run Tryz.prog w = .ok (.agg #[.int .i64 sp, .int .i64 0, .int .i64 8]) w := fun _ => (by kernel_rfl); have x5 : ∀ w : World, (Instr.index 105 (.agg #[.int .i64 lg, .int .i64 1, .int .i64 6, .int .i64 th, .int .i64 1, .int .i64 16, .int .i64 po, .int .i64 0, .int .i64 2, .int .i64 2, .int .i64 0, .int .i64 3, .int .i64 sp, .int .i64 0, .int .i64 8, .int .i64 yi, .int .i64 0, .int .i64 8]) (.int .i64 5)).run Tryz.prog w = .ok (.agg #[.int .i64 yi, .int .i64 0, .int .i64 8]) w := fun _ => (by kernel_rfl); gi_wp2; gi_loopw [31] (fun i wr => ∃ k : Nat, k ≤ 6 ∧ i = .int .i64 k ∧ J ((bdsL lg th po 2 sp yi).take k) wr) (fun i _ => 6 - (intOf i).toNat); (case atStart => exact ⟨0, by omega, rfl, hJ _ _ _ h0 ((Below.refl _ _).alloc (Nat.le_refl _) _)⟩); (case round => obtain ⟨k, hk, rfl, hj⟩ := hrel; rw [hL.out] at hj; obtain rfl | rfl | rfl | rfl | rfl | rfl | rfl : k = 0 ∨ k = 1 ∨ k = 2 ∨ k = 3 ∨ k = 4 ∨ k = 5 ∨ k = 6 := (by omega); ((obtain ⟨fn, tmps, assign, body, hy, hR⟩ := hY (10 - 1) [] ⟨lg, 1, 6⟩ [⟨th, 1, 16⟩, ⟨po, 0, 2⟩, ⟨2, 0, 3⟩, ⟨sp, 0, 8⟩, ⟨yi, 0, 8⟩] (wr.alloc (.cells #[.int .i64 (⟨lg, 1, 6⟩ : Bd).n, .int .i64 (⟨lg, 1, 6⟩ : Bd).low, .int .i64 (⟨lg, 1, 6⟩ : Bd).high] 85)) (by omega) hL.out (hJ _ _ _ hj ((Below.refl _ _).alloc (Nat.le_refl _) _)); simp only [Bd.val] at hy; gi_wp2; refine hR.mono ?_; rintro e C (⟨rfl, hj', hr⟩ | ⟨rfl, hx⟩); (gi_wp2; go_roundw; (case rel => exact ⟨1, by omega, rfl, by rw [hL.out]; exact hj'⟩); (case measure => simp [intOf])); (gi_wp2; refine bodyPost_ret (results_none rfl _ _ _) rfl ?_; exact ⟨⟨_, rfl⟩, .inr ⟨_, hx⟩⟩))); ((obtain ⟨fn, tmps, assign, body, hy, hR⟩ := hY (10 - 1) [⟨lg, 1, 6⟩] ⟨th, 1, 16⟩ [⟨po, 0, 2⟩, ⟨2, 0, 3⟩, ⟨sp, 0, 8⟩, ⟨yi, 0, 8⟩] (wr.alloc (.cells #[.int .i64 (⟨th, 1, 16⟩ : Bd).n, .int .i64 (⟨th, 1, 16⟩ : Bd).low, .int .i64 (⟨th, 1, 16⟩ : Bd).high] 85)) (by omega) hL.out (hJ _ _ _ hj ((Below.refl _ _).alloc (Nat.le_refl _) _)); simp only [Bd.val] at hy; gi_wp2; refine hR.mono ?_; rintro e C (⟨rfl, hj', hr⟩ | ⟨rfl, hx⟩); (gi_wp2; go_roundw; (case rel => exact ⟨2, by omega, rfl, by rw [hL.out]; exact hj'⟩); (case measure => simp [intOf])); (gi_wp2; refine bodyPost_ret (results_none rfl _ _ _) rfl ?_; exact ⟨⟨_, rfl⟩, .inr ⟨_, hx⟩⟩))); ((obtain ⟨fn, tmps, assign, body, hy, hR⟩ := hY (10 - 1) [⟨lg, 1, 6⟩, ⟨th, 1, 16⟩] ⟨po, 0, 2⟩ [⟨2, 0, 3⟩, ⟨sp, 0, 8⟩, ⟨yi, 0, 8⟩] (wr.alloc (.cells #[.int .i64 (⟨po, 0, 2⟩ : Bd).n, .int .i64 (⟨po, 0, 2⟩ : Bd).low, .int .i64 (⟨po, 0, 2⟩ : Bd).high] 85)) (by omega) hL.out (hJ _ _ _ hj ((Below.refl _ _).alloc (Nat.le_refl _) _)); simp only [Bd.val] at hy; gi_wp2; refine hR.mono ?_; rintro e C (⟨rfl, hj', hr⟩ | ⟨rfl, hx⟩); (gi_wp2; go_roundw; (case rel => exact ⟨3, by omega, rfl, by rw [hL.out]; exact hj'⟩); (case measure => simp [intOf])); (gi_wp2; refine bodyPost_ret (results_none rfl _ _ _) rfl ?_; exact ⟨⟨_, rfl⟩, .inr ⟨_, hx⟩⟩))); ((obtain ⟨fn, tmps, assign, body, hy, hR⟩ := hY (10 - 1) [⟨lg, 1, 6⟩, ⟨th, 1, 16⟩, ⟨po, 0, 2⟩] ⟨2, 0, 3⟩ [⟨sp, 0, 8⟩, ⟨yi, 0, 8⟩] (wr.alloc (.cells #[.int .i64 (⟨2, 0, 3⟩ : Bd).n, .int .i64 (⟨2, 0, 3⟩ : Bd).low, .int .i64 (⟨2, 0, 3⟩ : Bd).high] 85)) (by omega) hL.out (hJ _ _ _ hj ((Below.refl _ _).alloc (Nat.le_refl _) _)); simp only [Bd.val] at hy; gi_wp2; refine hR.mono ?_; rintro e C (⟨rfl, hj', hr⟩ | ⟨rfl, hx⟩); (gi_wp2; go_roundw; (case rel => exact ⟨4, by omega, rfl, by rw [hL.out]; exact hj'⟩); (case measure => simp [intOf])); (gi_wp2; refine bodyPost_ret (results_none rfl _ _ _) rfl ?_; exact ⟨⟨_, rfl⟩, .inr ⟨_, hx⟩⟩))); ((obtain ⟨fn, tmps, assign, body, hy, hR⟩ := hY (10 - 1) [⟨lg, 1, 6⟩, ⟨th, 1, 16⟩, ⟨po, 0, 2⟩, ⟨2, 0, 3⟩] ⟨sp, 0, 8⟩ [⟨yi, 0, 8⟩] (wr.alloc (.cells #[.int .i64 (⟨sp, 0, 8⟩ : Bd).n, .int .i64 (⟨sp, 0, 8⟩ : Bd).low, .int .i64 (⟨sp, 0, 8⟩ : Bd).high] 85)) (by omega) hL.out (hJ _ _ _ hj ((Below.refl _ _).alloc (Nat.le_refl _) _)); simp only [Bd.val] at hy; gi_wp2; refine hR.mono ?_; rintro e C (⟨rfl, hj', hr⟩ | ⟨rfl, hx⟩); (gi_wp2; go_roundw; (case rel => exact ⟨5, by omega, rfl, by rw [hL.out]; exact hj'⟩); (case measure => simp [intOf])); (gi_wp2; refine bodyPost_ret (results_none rfl _ _ _) rfl ?_; exact ⟨⟨_, rfl⟩, .inr ⟨_, hx⟩⟩))); ((obtain ⟨fn, tmps, assign, body, hy, hR⟩ := hY (10 - 1) [⟨lg, 1, 6⟩, ⟨th, 1, 16⟩, ⟨po, 0, 2⟩, ⟨2, 0, 3⟩, ⟨sp, 0, 8⟩] ⟨yi, 0, 8⟩ [] (wr.alloc (.cells #[.int .i64 (⟨yi, 0, 8⟩ : Bd).n, .int .i64 (⟨yi, 0, 8⟩ : Bd).low, .int .i64 (⟨yi, 0, 8⟩ : Bd).high] 85)) (by omega) hL.out (hJ _ _ _ hj ((Below.refl _ _).alloc (Nat.le_refl _) _)); simp only [Bd.val] at hy; gi_wp2; refine hR.mono ?_; rintro e C (⟨rfl, hj', hr⟩ | ⟨rfl, hx⟩); (gi_wp2; go_roundw; (case rel => exact ⟨6, by omega, rfl, by rw [hL.out]; exact hj'⟩); (case measure => simp [intOf])); (gi_wp2; refine bodyPost_ret (results_none rfl _ _ _) rfl ?_; exact ⟨⟨_, rfl⟩, .inr ⟨_, hx⟩⟩))); (gi_wp2; go_end0; exact ⟨⟨_, rfl⟩, .inl (by rw [hL.out]; exact hj)⟩)))
  · have hwb : (wt == 2) = false := by simpa using hwt
    (have hL : Hid (bdsL lg th po wt sp yi = [⟨lg, 1, 6⟩, ⟨th, 1, 16⟩, ⟨po, 0, 2⟩, ⟨wt, 0, 3⟩, ⟨sp, 0, 0⟩, ⟨yi, 0, 0⟩]) := Lib.hid (by simp [bdsL, triesI, hwt]); have x0 : ∀ w : World, (Instr.index 105 (.agg #[.int .i64 lg, .int .i64 1, .int .i64 6, .int .i64 th, .int .i64 1, .int .i64 16, .int .i64 po, .int .i64 0, .int .i64 2, .int .i64 wt, .int .i64 0, .int .i64 3, .int .i64 sp, .int .i64 0, .int .i64 0, .int .i64 yi, .int .i64 0, .int .i64 0]) (.int .i64 0)).run Tryz.prog w = .ok (.agg #[.int .i64 lg, .int .i64 1, .int .i64 6]) w := fun _ => (by kernel_rfl); have x1 : ∀ w : World, (Instr.index 105 (.agg #[.int .i64 lg, .int .i64 1, .int .i64 6, .int .i64 th, .int .i64 1, .int .i64 16, .int .i64 po, .int .i64 0, .int .i64 2, .int .i64 wt, .int .i64 0, .int .i64 3, .int .i64 sp, .int .i64 0, .int .i64 0, .int .i64 yi, .int .i64 0, .int .i64 0]) (.int .i64 1)).run Tryz.prog w = .ok (.agg #[.int .i64 th, .int .i64 1, .int .i64 16]) w := fun _ => (by kernel_rfl); have x2 : ∀ w : World, (Instr.index 105 (.agg #[.int .i64 lg, .int .i64 1, .int .i64 6, .int .i64 th, .int .i64 1, .int .i64 16, .int .i64 po, .int .i64 0, .int .i64 2, .int .i64 wt, .int .i64 0, .int .i64 3, .int .i64 sp, .int .i64 0, .int .i64 0, .int .i64 yi, .int .i64 0, .int .i64 0]) (.int .i64 2)).run Tryz.prog w = .ok (.agg #[.int .i64 po, .int .i64 0, .int .i64 2]) w := fun _ => (by kernel_rfl); have x3 : ∀ w : World, (Instr.index 105 (.agg #[.int .i64 lg, .int .i64 1, .int .i64 6, .int .i64 th, .int .i64 1, .int .i64 16, .int .i64 po, .int .i64 0, .int .i64 2, .int .i64 wt, .int .i64 0, .int .i64 3, .int .i64 sp, .int .i64 0, .int .i64 0, .int .i64 yi, .int .i64 0, .int .i64 0]) (.int .i64 3)).run Tryz.prog w = .ok (.agg #[.int .i64 wt, .int .i64 0, .int .i64 3]) w := fun _ => (by kernel_rfl); have x4 : ∀ w : World, (Instr.index 105 (.agg #[.int .i64 lg, .int .i64 1, .int .i64 6, .int .i64 th, .int .i64 1, .int .i64 16, .int .i64 po, .int .i64 0, .int .i64 2, .int .i64 wt, .int .i64 0, .int .i64 3, .int .i64 sp, .int .i64 0, .int .i64 0, .int .i64 yi, .int .i64 0, .int .i64 0]) (.int .i64 4)).run Tryz.prog w = .ok (.agg #[.int .i64 sp, .int .i64 0, .int .i64 0]) w := fun _ => (by kernel_rfl); have x5 : ∀ w : World, (Instr.index 105 (.agg #[.int .i64 lg, .int .i64 1, .int .i64 6, .int .i64 th, .int .i64 1, .int .i64 16, .int .i64 po, .int .i64 0, .int .i64 2, .int .i64 wt, .int .i64 0, .int .i64 3, .int .i64 sp, .int .i64 0, .int .i64 0, .int .i64 yi, .int .i64 0, .int .i64 0]) (.int .i64 5)).run Tryz.prog w = .ok (.agg #[.int .i64 yi, .int .i64 0, .int .i64 0]) w := fun _ => (by kernel_rfl); gi_wp2; gi_loopw [31] (fun i wr => ∃ k : Nat, k ≤ 6 ∧ i = .int .i64 k ∧ J ((bdsL lg th po wt sp yi).take k) wr) (fun i _ => 6 - (intOf i).toNat); (case atStart => exact ⟨0, by omega, rfl, hJ _ _ _ h0 ((Below.refl _ _).alloc (Nat.le_refl _) _)⟩); (case round => obtain ⟨k, hk, rfl, hj⟩ := hrel; rw [hL.out] at hj; obtain rfl | rfl | rfl | rfl | rfl | rfl | rfl : k = 0 ∨ k = 1 ∨ k = 2 ∨ k = 3 ∨ k = 4 ∨ k = 5 ∨ k = 6 := (by omega); ((obtain ⟨fn, tmps, assign, body, hy, hR⟩ := hY (10 - 1) [] ⟨lg, 1, 6⟩ [⟨th, 1, 16⟩, ⟨po, 0, 2⟩, ⟨wt, 0, 3⟩, ⟨sp, 0, 0⟩, ⟨yi, 0, 0⟩] (wr.alloc (.cells #[.int .i64 (⟨lg, 1, 6⟩ : Bd).n, .int .i64 (⟨lg, 1, 6⟩ : Bd).low, .int .i64 (⟨lg, 1, 6⟩ : Bd).high] 85)) (by omega) hL.out (hJ _ _ _ hj ((Below.refl _ _).alloc (Nat.le_refl _) _)); simp only [Bd.val] at hy; gi_wp2; refine hR.mono ?_; rintro e C (⟨rfl, hj', hr⟩ | ⟨rfl, hx⟩); (gi_wp2; go_roundw; (case rel => exact ⟨1, by omega, rfl, by rw [hL.out]; exact hj'⟩); (case measure => simp [intOf])); (gi_wp2; refine bodyPost_ret (results_none rfl _ _ _) rfl ?_; exact ⟨⟨_, rfl⟩, .inr ⟨_, hx⟩⟩))); ((obtain ⟨fn, tmps, assign, body, hy, hR⟩ := hY (10 - 1) [⟨lg, 1, 6⟩] ⟨th, 1, 16⟩ [⟨po, 0, 2⟩, ⟨wt, 0, 3⟩, ⟨sp, 0, 0⟩, ⟨yi, 0, 0⟩] (wr.alloc (.cells #[.int .i64 (⟨th, 1, 16⟩ : Bd).n, .int .i64 (⟨th, 1, 16⟩ : Bd).low, .int .i64 (⟨th, 1, 16⟩ : Bd).high] 85)) (by omega) hL.out (hJ _ _ _ hj ((Below.refl _ _).alloc (Nat.le_refl _) _)); simp only [Bd.val] at hy; gi_wp2; refine hR.mono ?_; rintro e C (⟨rfl, hj', hr⟩ | ⟨rfl, hx⟩); (gi_wp2; go_roundw; (case rel => exact ⟨2, by omega, rfl, by rw [hL.out]; exact hj'⟩); (case measure => simp [intOf])); (gi_wp2; refine bodyPost_ret (results_none rfl _ _ _) rfl ?_; exact ⟨⟨_, rfl⟩, .inr ⟨_, hx⟩⟩))); ((obtain ⟨fn, tmps, assign, body, hy, hR⟩ := hY (10 - 1) [⟨lg, 1, 6⟩, ⟨th, 1, 16⟩] ⟨po, 0, 2⟩ [⟨wt, 0, 3⟩, ⟨sp, 0, 0⟩, ⟨yi, 0, 0⟩] (wr.alloc (.cells #[.int .i64 (⟨po, 0, 2⟩ : Bd).n, .int .i64 (⟨po, 0, 2⟩ : Bd).low, .int .i64 (⟨po, 0, 2⟩ : Bd).high] 85)) (by omega) hL.out (hJ _ _ _ hj ((Below.refl _ _).alloc (Nat.le_refl _) _)); simp only [Bd.val] at hy; gi_wp2; refine hR.mono ?_; rintro e C (⟨rfl, hj', hr⟩ | ⟨rfl, hx⟩); (gi_wp2; go_roundw; (case rel => exact ⟨3, by omega, rfl, by rw [hL.out]; exact hj'⟩); (case measure => simp [intOf])); (gi_wp2; refine bodyPost_ret (results_none rfl _ _ _) rfl ?_; exact ⟨⟨_, rfl⟩, .inr ⟨_, hx⟩⟩))); ((obtain ⟨fn, tmps, assign, body, hy, hR⟩ := hY (10 - 1) [⟨lg, 1, 6⟩, ⟨th, 1, 16⟩, ⟨po, 0, 2⟩] ⟨wt, 0, 3⟩ [⟨sp, 0, 0⟩, ⟨yi, 0, 0⟩] (wr.alloc (.cells #[.int .i64 (⟨wt, 0, 3⟩ : Bd).n, .int .i64 (⟨wt, 0, 3⟩ : Bd).low, .int .i64 (⟨wt, 0, 3⟩ : Bd).high] 85)) (by omega) hL.out (hJ _ _ _ hj ((Below.refl _ _).alloc (Nat.le_refl _) _)); simp only [Bd.val] at hy; gi_wp2; refine hR.mono ?_; rintro e C (⟨rfl, hj', hr⟩ | ⟨rfl, hx⟩); (gi_wp2; go_roundw; (case rel => exact ⟨4, by omega, rfl, by rw [hL.out]; exact hj'⟩); (case measure => simp [intOf])); (gi_wp2; refine bodyPost_ret (results_none rfl _ _ _) rfl ?_; exact ⟨⟨_, rfl⟩, .inr ⟨_, hx⟩⟩))); ((obtain ⟨fn, tmps, assign, body, hy, hR⟩ := hY (10 - 1) [⟨lg, 1, 6⟩, ⟨th, 1, 16⟩, ⟨po, 0, 2⟩, ⟨wt, 0, 3⟩] ⟨sp, 0, 0⟩ [⟨yi, 0, 0⟩] (wr.alloc (.cells #[.int .i64 (⟨sp, 0, 0⟩ : Bd).n, .int .i64 (⟨sp, 0, 0⟩ : Bd).low, .int .i64 (⟨sp, 0, 0⟩ : Bd).high] 85)) (by omega) hL.out (hJ _ _ _ hj ((Below.refl _ _).alloc (Nat.le_refl _) _)); simp only [Bd.val] at hy; gi_wp2; refine hR.mono ?_; rintro e C (⟨rfl, hj', hr⟩ | ⟨rfl, hx⟩); (gi_wp2; go_roundw; (case rel => exact ⟨5, by omega, rfl, by rw [hL.out]; exact hj'⟩); (case measure => simp [intOf])); (gi_wp2; refine bodyPost_ret (results_none rfl _ _ _) rfl ?_; exact ⟨⟨_, rfl⟩, .inr ⟨_, hx⟩⟩))); ((obtain ⟨fn, tmps, assign, body, hy, hR⟩ := hY (10 - 1) [⟨lg, 1, 6⟩, ⟨th, 1, 16⟩, ⟨po, 0, 2⟩, ⟨wt, 0, 3⟩, ⟨sp, 0, 0⟩] ⟨yi, 0, 0⟩ [] (wr.alloc (.cells #[.int .i64 (⟨yi, 0, 0⟩ : Bd).n, .int .i64 (⟨yi, 0, 0⟩ : Bd).low, .int .i64 (⟨yi, 0, 0⟩ : Bd).high] 85)) (by omega) hL.out (hJ _ _ _ hj ((Below.refl _ _).alloc (Nat.le_refl _) _)); simp only [Bd.val] at hy; gi_wp2; refine hR.mono ?_; rintro e C (⟨rfl, hj', hr⟩ | ⟨rfl, hx⟩); (gi_wp2; go_roundw; (case rel => exact ⟨6, by omega, rfl, by rw [hL.out]; exact hj'⟩); (case measure => simp [intOf])); (gi_wp2; refine bodyPost_ret (results_none rfl _ _ _) rfl ?_; exact ⟨⟨_, rfl⟩, .inr ⟨_, hx⟩⟩))); (gi_wp2; go_end0; exact ⟨⟨_, rfl⟩, .inl (by rw [hL.out]; exact hj)⟩)))
end Go.Proofs.YtcakapmpifnfpaaGreat

/- Contracts of layer 2's functions and of the document's: what each call returns, as the plain functions say; what was there is kept. -/
namespace Go.Proofs.YtcakapmpifnfpaaGreat
set_option linter.unusedVariables false
set_option linter.unusedSimpArgs false
open Go.ChangeShapes Go.WideShapes Go.ChangeAt Go.RowKit Go.Shelf
attribute [local go_sem] Oper.semAt_some

set_option maxRecDepth 100000 in
set_option maxHeartbeats 4000000 in
theorem ccheck_any (lg th po wt sp yi : Int) (si : Bool) (w : World) :
    Calls Tryz.prog 26 #[.agg #[.int .i64 lg, .int .i64 th, .int .i64 po, .int .i64 wt, .int .i64 sp, .int .i64 yi, .bool si]] w fun e w' => e = .returned (.int .i64 (ckI lg th po wt sp yi)) ∧ Kept w w' := by
  refine (callsIn_wide (n := 20)).1 ?_
  refine callsIn_of_wp_marks Tryz.func26 rfl trivial ?_
  simp only [Tryz.ntmps26, List.size_toArray, List.length_cons, List.length_nil, Nat.reduceAdd, Nat.reduceSub, Array.replicate_succ, Array.replicate_zero, List.push_toArray, List.append_toArray, List.nil_append, List.cons_append]
  gi_wp2
  have hc0 : ((w.alloc (.cells #[.int .i64 lg, .int .i64 th, .int .i64 po, .int .i64 wt, .int .i64 sp, .int .i64 yi, .bool si] 23)).alloc (.cells #[.int .i64 0] 36)).cell? ⟨w.heap.size + 1, 0, none⟩ = some (.int .i64 0) := by simp
  have hf0 : ((w.alloc (.cells #[.int .i64 lg, .int .i64 th, .int .i64 po, .int .i64 wt, .int .i64 sp, .int .i64 yi, .bool si] 23)).alloc (.cells #[.int .i64 0] 36)).frozen? ⟨w.heap.size + 1, 0, none⟩ = false := by simp
  have hB0 : Below w.heap.size w ((w.alloc (.cells #[.int .i64 lg, .int .i64 th, .int .i64 po, .int .i64 wt, .int .i64 sp, .int .i64 yi, .bool si] 23)).alloc (.cells #[.int .i64 0] 36)) := ((Below.refl _ _).alloc (Nat.le_refl _) _).alloc (by simp) _
  have hs0 : ((w.alloc (.cells #[.int .i64 lg, .int .i64 th, .int .i64 po, .int .i64 wt, .int .i64 sp, .int .i64 yi, .bool si] 23)).alloc (.cells #[.int .i64 0] 36)).heap.size = w.heap.size + 2 := by simp
  revert hc0 hf0 hB0 hs0
  generalize ((w.alloc (.cells #[.int .i64 lg, .int .i64 th, .int .i64 po, .int .i64 wt, .int .i64 sp, .int .i64 yi, .bool si] 23)).alloc (.cells #[.int .i64 0] 36)) = V
  intro hc0 hf0 hB0 hs0
  refine wpIn_over (gf := 45) (bd := #[.agg #[.int .i64 lg, .int .i64 th, .int .i64 po, .int .i64 wt, .int .i64 sp, .int .i64 yi, .bool si]]) (lb := #[]) rfl (enters_of Tryz.func45 (by kernel_rfl) rfl) (bounds_iter lg th po wt sp yi si w.heap.size V) (by omega) rfl
    (fun pre A => A.cell? ⟨w.heap.size + 1, 0, none⟩ = some (.int .i64 0) ∧ A.frozen? ⟨w.heap.size + 1, 0, none⟩ = false ∧ Below w.heap.size w A ∧ okL pre = true)
    (fun c pre A => c = .ret ∧ A.cell? ⟨w.heap.size + 1, 0, none⟩ = some (.int .i64 20) ∧ Below w.heap.size w A ∧ mayB lg th po wt sp yi = false)
    (fun s A C hs ht => ⟨ht.cell hs.1, (ht.frozen hs.1).trans hs.2.1, ht.below (by omega) hs.2.2.1, hs.2.2.2⟩)
    (fun c s A C hs ht => ⟨hs.1, ht.cell hs.2.1, ht.below (by omega) hs.2.2.1, hs.2.2.2⟩)
    ⟨hc0, hf0, hB0, rfl⟩ ?round ?done ?stop
  case round =>
    rintro m l pre suf ⟨n, low, high⟩ A hm hxs hsz ⟨hc, hf, hB, hp⟩
    simp only [Bd.val]
    have hbl : (⟨w.heap.size + 1, 0, none⟩ : Addr).block < A.heap.size := by show w.heap.size + 1 < A.heap.size; omega
    gi_wp2
    refine ⟨(Below.refl _ _).alloc (Nat.le_refl _) _, fun C ht hsC => ?_⟩
    have h1m : 1 ≤ m := by omega
    have hn0 : C.cell? ⟨A.heap.size, 0, none⟩ = some (.int .i64 n) := ht.cell (by simp)
    have hn1 : C.cell? ⟨A.heap.size, 1, none⟩ = some (.int .i64 low) := ht.cell (by simp)
    have hn2 : C.cell? ⟨A.heap.size, 2, none⟩ = some (.int .i64 high) := ht.cell (by simp)
    have hA1 : Below A.heap.size A (A.alloc (.cells #[.int .i64 n, .int .i64 low, .int .i64 high] 85)) := (Below.refl _ _).alloc (Nat.le_refl _) _
    have hcC := ht.cell ((hA1.cell (p := ⟨w.heap.size + 1, 0, none⟩) hbl).trans hc)
    have hfC := (ht.frozen ((hA1.cell (p := ⟨w.heap.size + 1, 0, none⟩) hbl).trans hc)).trans ((hA1.frozen (p := ⟨w.heap.size + 1, 0, none⟩) hbl).trans hf)
    have hBC : Below w.heap.size w C := ht.below (by omega) (hB.trans (hA1.mono hB.size))
    clear ht hc hf hA1
    cases hx : inB n low high
    · gi_wp2_with (refine ⟨trivial, ?_⟩; gi_at_call 46; refine (CallsIn.inRound l (callsIn_wide.2 (within_any _ _ _ _))).mono ?_; rintro e D ⟨rfl, hD⟩; have hcD := (hD.cell (p := ⟨w.heap.size + 1, 0, none⟩) (by show w.heap.size + 1 < C.heap.size; omega)).trans hcC; have hfD := (hD.frozen (p := ⟨w.heap.size + 1, 0, none⟩) (by show w.heap.size + 1 < C.heap.size; omega)).trans hfC)
      refine ⟨(Rnd.of_below hD (by omega) (by omega)).setCell (by simp) (by simp) _, rfl, World.cell?_setCell_same' _ _ _ (by rw [hcD]; rfl), (hBC.trans (hD.mono (by omega))).setCell (by simp) _, may_not hxs hx⟩
    · gi_wp2_with (refine ⟨trivial, ?_⟩; gi_at_call 46; refine (CallsIn.inRound l (callsIn_wide.2 (within_any _ _ _ _))).mono ?_; rintro e D ⟨rfl, hD⟩; have hcD := (hD.cell (p := ⟨w.heap.size + 1, 0, none⟩) (by show w.heap.size + 1 < C.heap.size; omega)).trans hcC; have hfD := (hD.frozen (p := ⟨w.heap.size + 1, 0, none⟩) (by show w.heap.size + 1 < C.heap.size; omega)).trans hfC)
      exact ⟨Rnd.of_below hD (by omega) (by omega), hcD, hfD, hBC.trans (hD.mono (by omega)), okL_snoc hp hx⟩
  case done =>
    rintro D W hD ⟨hc, hf, hB, hp⟩ hK
    gi_wp2
    have hK1 := (Below.heap_setCell W ⟨w.heap.size + 1, 0, none⟩ (.int .i64 0) D (by show D ≠ w.heap.size + 1; omega)).trans hK
    have hT : Turn (w.heap.size + 2) (W.setCell ⟨w.heap.size + 1, 0, none⟩ (.int .i64 0)) ((W.setCell ⟨w.heap.size + 1, 0, none⟩ (.int .i64 0)).putObj D (.deferred none)) := Turn.putObj hK1 rfl (by omega) _
    have hW := hT.cell (p := ⟨w.heap.size + 1, 0, none⟩) (World.cell?_setCell_same' _ _ _ (by rw [hc]; rfl))
    have hBW := hT.below (by omega) (hB.setCell (p := ⟨w.heap.size + 1, 0, none⟩) (by simp) (.int .i64 0))
    refine ⟨by simp, .inl ⟨_, _, rfl, run_takeDeferred hK1, ?_⟩⟩
    revert hW hBW
    generalize ((W.setCell ⟨w.heap.size + 1, 0, none⟩ (.int .i64 0)).putObj D (.deferred none)) = X
    intro hW hBW
    exact ⟨.int .i64 0, by simp [results, Tryz.results26, go_sem, hW], ret_int (by rw [ckI, if_pos (show mayB lg th po wt sp yi = true from hp)]), hBW⟩
  case stop =>
    rintro D c pre W hD ⟨rfl, hc, hB, hm⟩ hK
    gi_wp2
    have hT : Turn (w.heap.size + 2) W (W.putObj D (.deferred none)) := Turn.putObj hK rfl (by omega) _
    have hW := hT.cell hc
    have hBW := hT.below (by omega) hB
    refine ⟨by simp, .inl ⟨_, _, rfl, run_takeDeferred hK, ?_⟩⟩
    revert hW hBW
    generalize (W.putObj D (.deferred none)) = X
    intro hW hBW
    exact ⟨.int .i64 20, by simp [results, Tryz.results26, go_sem, hW], ret_int (by rw [ckI, hm]; rfl), hBW⟩
end Go.Proofs.YtcakapmpifnfpaaGreat

/- Contracts of layer 2's other functions, and of the document's: a configuration by value. -/
namespace Go.Proofs.YtcakapmpifnfpaaGreat
set_option linter.unusedVariables false
set_option linter.unusedSimpArgs false
open Go.ChangeShapes Go.WideShapes Go.ChangeAt Go.RowKit

theorem cmay_any (lg th po wt sp yi : Int) (si : Bool) (w : World) : Calls Tryz.prog 58 #[.agg #[.int .i64 lg, .int .i64 th, .int .i64 po, .int .i64 wt, .int .i64 sp, .int .i64 yi, .bool si]] w fun e w' => e = .returned (.bool (mayB lg th po wt sp yi)) ∧ Kept w w' := by
  cases hm : mayB lg th po wt sp yi
  · have hk := ck_no hm
    go_enter Tryz.func58, Tryz.ntmps58
    go_wp2_with (first | (go_at_call 26; refine (ccheck_any _ _ _ _ _ _ _ _).mono ?_; rintro e wx ⟨rfl, hgx⟩; obtain ⟨hcx, hfx⟩ := bcell hgx; have hz0 : w.heap.size < wx.heap.size := (by have := hgx.size; (try simp at this); omega)))
    go_ret
    exact ⟨rfl, by repeat' (first | (with_reducible exact Below.refl _ _) | (with_reducible assumption) | (with_reducible refine kept_alloc ?_ _) | (with_reducible refine kept_drewN ?_ _) | (with_reducible refine Below.drew ?_) | (with_reducible refine Below.setCell ?_ (by first | omega | (simp; omega) | (simp; done)) _) | (refine kept_trans ?_ (by with_reducible assumption)))⟩
  · have hk := ck_yes hm
    go_enter Tryz.func58, Tryz.ntmps58
    go_wp2_with (first | (go_at_call 26; refine (ccheck_any _ _ _ _ _ _ _ _).mono ?_; rintro e wx ⟨rfl, hgx⟩; obtain ⟨hcx, hfx⟩ := bcell hgx; have hz0 : w.heap.size < wx.heap.size := (by have := hgx.size; (try simp at this); omega)))
    go_ret
    exact ⟨rfl, by repeat' (first | (with_reducible exact Below.refl _ _) | (with_reducible assumption) | (with_reducible refine kept_alloc ?_ _) | (with_reducible refine kept_drewN ?_ _) | (with_reducible refine Below.drew ?_) | (with_reducible refine Below.setCell ?_ (by first | omega | (simp; omega) | (simp; done)) _) | (refine kept_trans ?_ (by with_reducible assumption)))⟩

theorem croom_any (lg th po wt sp yi : Int) (si : Bool) (w : World) : Calls Tryz.prog 34 #[.agg #[.int .i64 lg, .int .i64 th, .int .i64 po, .int .i64 wt, .int .i64 sp, .int .i64 yi, .bool si]] w fun e w' => e = .returned (.int .i64 (roomI lg th po wt sp yi)) ∧ Kept w w' := by
  cases hm : mayB lg th po wt sp yi
  · have hk := room_no hm
    go_enter Tryz.func34, Tryz.ntmps34
    go_wp2_with (first | (go_at_call 58; refine (cmay_any _ _ _ _ _ _ _ _).mono ?_; rintro e wx ⟨rfl, hgx⟩; obtain ⟨hcx, hfx⟩ := bcell hgx; have hz0 : w.heap.size < wx.heap.size := (by have := hgx.size; (try simp at this); omega)))
    go_ret
    exact ⟨ret_int (by rw [hk]), by repeat' (first | (with_reducible exact Below.refl _ _) | (with_reducible assumption) | (with_reducible refine kept_alloc ?_ _) | (with_reducible refine kept_drewN ?_ _) | (with_reducible refine Below.drew ?_) | (with_reducible refine Below.setCell ?_ (by first | omega | (simp; omega) | (simp; done)) _) | (refine kept_trans ?_ (by with_reducible assumption)))⟩
  · have hk := room_yes hm
    have hp := may_iff.1 hm
    obtain rfl | rfl | rfl | rfl | rfl | rfl : lg = 1 ∨ lg = 2 ∨ lg = 3 ∨ lg = 4 ∨ lg = 5 ∨ lg = 6 := by omega
    all_goals
      clear hp
      go_enter Tryz.func34, Tryz.ntmps34
      go_wp2_with (first | (go_at_call 58; refine (cmay_any _ _ _ _ _ _ _ _).mono ?_; rintro e wx ⟨rfl, hgx⟩; obtain ⟨hcx, hfx⟩ := bcell hgx; have hz0 : w.heap.size < wx.heap.size := (by have := hgx.size; (try simp at this); omega)))
      go_ret
      exact ⟨ret_int (by rw [hk]; rfl), by repeat' (first | (with_reducible exact Below.refl _ _) | (with_reducible assumption) | (with_reducible refine kept_alloc ?_ _) | (with_reducible refine kept_drewN ?_ _) | (with_reducible refine Below.drew ?_) | (with_reducible refine Below.setCell ?_ (by first | omega | (simp; omega) | (simp; done)) _) | (refine kept_trans ?_ (by with_reducible assumption)))⟩

end Go.Proofs.YtcakapmpifnfpaaGreat

/- 'copy' into a row of the call's own, of elements of whatever size, as lists. -/
namespace Go.Proofs.YtcakapmpifnfpaaGreat
set_option linter.unusedVariables false
set_option linter.unusedSimpArgs false
open Go.ChangeShapes Go.WideShapes Go.ChangeAt Go.RowKit

theorem run_copy_wide {P : Program} (w : World) (dT sT ty elem : TypeId) (g dLen dCap sLen sCap k : Nat) (sp : Option Addr) (cur : Array Value) (t : TypeId) (cs : List Value)
    (hu : P.underlying dT = some (.slice elem)) (hs : (P.info? elem).map (·.size) = some k) (hg : w.heap[g]? = some (.cells cur t (0, 0))) (hn : cs.length = Nat.min sLen dLen * k)
    (hsrc : cs ≠ [] → ∃ a, sp = some a ∧ ∀ j v, cs[j]? = some v → w.cell? (a.add j) = some v) (hfit : cs.length ≤ cur.size) (h1 : ∀ v ∈ cs, v.oneCell' = true) :
    (Builtin.copy_ #[dT, sT] ty #[.slice (some ⟨g, 0, none⟩) dLen dCap, .slice sp sLen sCap]).run P w = .ok (goInt (Nat.min sLen dLen)) (w.setRow g (cs ++ cur.toList.drop cs.length).toArray) := by
  have hst := run_storeCells_at P g 0 t cs 0 cur w hg (by simpa using hfit) h1
  simp only [Nat.zero_add, List.take_zero, List.nil_append] at hst
  cases hq : P.info? elem with
  | none => simp [hq] at hs
  | some i =>
    have hi : i.size = k := by simpa [hq] using hs
    by_cases h0 : cs = []
    · subst h0
      have h2 : Nat.min sLen dLen * k = 0 := by simpa using hn.symm
      simp only [List.length_nil, List.drop_zero, List.nil_append, Array.toArray_toList] at hst ⊢
      cases sp with
      | none => simp [Builtin.copy_, run_underlying hu, Builtin.lenOf, Builtin.firstCells, sizeOf, typeInfo, hq, hi, h2, hst, loadCells, loadCellsFrom]
      | some a => simp [Builtin.copy_, run_underlying hu, Builtin.lenOf, Builtin.firstCells, sizeOf, typeInfo, hq, hi, h2, hst, loadCells, loadCellsFrom]
    · obtain ⟨a, rfl, hc⟩ := hsrc h0
      have hl := run_loadCells_list (P := P) w a cs hc
      simp [Builtin.copy_, run_underlying hu, Builtin.lenOf, Builtin.firstCells, sizeOf, typeInfo, hq, hi, ← hn, hl, hst]

theorem add_plain (b o j : Nat) : (⟨b, o, none⟩ : Addr).add j = ⟨b, o + j, none⟩ := by unfold Addr.add; split <;> simp_all

/-- What a slice's cells are, one by one. -/
theorem Sl.flat {α : Type} {W : World} {k : Nat} {enc : α → List Value} (he : Enc k enc) (hk : 0 < k) {xs : List α} {p : Option Addr} {n c : Nat} (h : Sl W k enc xs (.slice p n c)) (hne : xs ≠ []) :
    ∃ a, p = some a ∧ ∀ j v, (xs.flatMap enc)[j]? = some v → W.cell? (a.add j) = some v := by
  obtain ⟨_, _, e, _, _, _, h4⟩ := h.is
  cases e
  obtain ⟨b, off, rfl, _, hcell⟩ := h4 hne
  refine ⟨_, rfl, fun j v hj => ?_⟩
  have hj' := (List.getElem?_eq_some_iff.1 hj).1
  rw [flat_len he] at hj'
  have hd : j / k < xs.length := Nat.div_lt_of_lt_mul (by rw [Nat.mul_comm]; exact hj')
  have hmo := Nat.mod_lt j hk
  have hdm : j / k * k + j % k = j := by rw [Nat.mul_comm]; exact Nat.div_add_mod j k
  have h1 := hcell (j / k) xs[j / k] (List.getElem?_eq_getElem hd) (j % k) hmo
  have h2 := flat_get he xs (j / k) (j % k) xs[j / k] (List.getElem?_eq_getElem hd) hmo
  rw [hdm, hj] at h2
  rw [← h2, Nat.add_assoc, hdm] at h1
  rw [← h1, add_plain]

/-- 'copy(m, l)', m the call's own, as long as l. -/
theorem wpList_copy_all {P : Program} {w wb : World} {α : Type} {ops : Array Oper} {rest : List Oper} {o : Oper} {a : Act} {Q : Exit → Act → World → Prop} (hgd : o.guard = none) (d s : Operand) (dT sT : TypeId)
    (ho : o.op = .call { callee := .builtin .copy, args := #[d, s], argTypes := #[dT, sT] }) {elem e : TypeId} (hu : P.underlying dT = some (.slice elem)) {k : Nat} (hsz : (P.info? elem).map (·.size) = some k) (hk : 0 < k)
    {enc : α → List Value} (he : Enc k enc) {xs ys : List α} {g n c cap : Nat} {p : Option Addr} (hd : a.eval d = .slice (some ⟨g, 0, none⟩) n cap) (hs : a.eval s = .slice p n c) (hx : xs.length = n) (hy : ys.length = n)
    (hown : Ow w wb.heap.size e k enc xs (.slice (some ⟨g, 0, none⟩) n cap)) (hsl : Sl w k enc ys (.slice p n c)) (hB : Below wb.heap.size wb w)
    (h : ∀ w', Ow w' wb.heap.size e k enc ys (.slice (some ⟨g, 0, none⟩) n cap) → Below wb.heap.size wb w' → wpList P ops Q rest (a.put o.dst (goInt n)) w') : wpList P ops Q (o :: rest) a w := by
  obtain ⟨_, ⟨e1, _⟩ | ⟨_, _, cur, e1, hb, hg, hl, hm, hcs, ht⟩⟩ := hown
  · cases e1
  cases e1
  rw [← hy] at hsl h hs hd hl
  have hfl := flat_len he ys
  have hrun := run_copy_wide (P := P) w dT sT o.type elem g ys.length cap ys.length c k p cur e (ys.flatMap enc) hu hsz hg (by rw [hfl]; simp [Nat.min_def]) (fun hne => Sl.flat he hk hsl (by rintro rfl; simp at hne)) (by rw [hfl, hcs]; exact Nat.mul_le_mul_right k (by omega)) (fun v hv => by
    obtain ⟨y, _, hy⟩ := List.mem_flatMap.1 hv
    exact he.one y v hy)
  have hmin : Nat.min ys.length ys.length = ys.length := Nat.min_self _
  rw [hmin] at hrun
  obtain ⟨F, hF⟩ : ∃ F, ys.flatMap enc = F := ⟨_, rfl⟩
  rw [hF] at hrun hfl
  have hsz2 : (F ++ cur.toList.drop F.length).length = cap * k := by
    have : ys.length * k ≤ cap * k := Nat.mul_le_mul_right k (by omega)
    have h3 : cur.toList.length = cap * k := by simpa using hcs
    rw [List.length_append, List.length_drop, hfl, h3]; omega
  have htk : (F ++ cur.toList.drop F.length).take (ys.length * k) = F := by
    rw [List.take_append_of_le_length (by rw [hfl]; exact Nat.le_refl _), List.take_of_length_le (by rw [hfl]; exact Nat.le_refl _)]
  generalize F ++ cur.toList.drop F.length = G at *
  refine wpList_plain hgd fun K hK => ?_
  unfold Oper.wp
  simp [execOp, ho, resolve, invoke, builtin, hd, hs, hrun, Result.andThen]
  exact hK _ _ (h _ ⟨by rw [hF]; exact hfl, .inr ⟨g, cap, G.toArray, rfl, hb, setRow_heap w g cur _ e _ hg, hl, hm, by simpa using hsz2, by rw [hF]; exact htk⟩⟩ (below_setRow hB hb _))
end Go.Proofs.YtcakapmpifnfpaaGreat

/- Appends to slices of the call's own, and in which block what comes out lies. -/
namespace Go.Proofs.YtcakapmpifnfpaaGreat
set_option linter.unusedVariables false
set_option linter.unusedSimpArgs false
open Go.ChangeShapes Go.WideShapes Go.ChangeAt Go.RowKit
section
variable {P : Program} {w : World}
end
end Go.Proofs.YtcakapmpifnfpaaGreat

/- Layer 9: slots in memory; laid anew; the two closures; one changed. -/
namespace Go.Proofs.YtcakapmpifnfpaaGreat
set_option linter.unusedVariables false
set_option linter.unusedSimpArgs false
open Go.ChangeShapes Go.WideShapes Go.ChangeAt Go.RowKit

theorem slo_info : (Tryz.prog.info? 64).map (fun i => (i.zero, i.size, i.bytes)) = some (some (.agg #[.int .i64 0, .int .i64 0]), 2, 16) := by kernel_rfl
theorem slo_size : (Tryz.prog.info? 64).map (·.size) = some 2 := by kernel_rfl
theorem ss_at {W : World} {l : List Slo} {b o n c : Nat} (h : Sl W 2 Slo.cells l (.slice (some ⟨b, o, none⟩) n c)) {j : Nat} (hj : j < l.length) : W.cell? ⟨b, o + j * 2, none⟩ = some (.int .i64 (gs l j).st) ∧ W.cell? ⟨b, o + j * 2 + 1, none⟩ = some (.int .i64 (gs l j).vl) := by
  obtain ⟨p, k, e, _, _, _, h4⟩ := h.is
  cases e
  obtain ⟨b', o', e, _, h5⟩ := h4 (by intro h; subst h; simp at hj)
  cases e
  have h6 := h5 j (gs l j) (gs_some hj)
  have h7 := h6 0 (by omega)
  have h8 := h6 1 (by omega)
  exact ⟨by simpa [Slo.cells] using h7, by simpa [Slo.cells] using h8⟩
theorem Ow.len {w : World} {base n cap : Nat} {p : Option Addr} {l : List Slo} (h : Ow w base 64 2 Slo.cells l (.slice p n cap)) : n = l.length := by
  obtain ⟨_, ⟨e, h0⟩ | ⟨_, _, cur, e, _⟩⟩ := h
  · cases e; exact h0.symm
  · cases e; rfl
theorem Ow.slots {w : World} {base g n cap : Nat} {l : List Slo} (h : Ow w base 64 2 Slo.cells l (.slice (some ⟨g, 0, none⟩) n cap)) {i : Nat} (hi : i < l.length) :
    w.cell? ⟨g, i * 2, none⟩ = some (.int .i64 (gs l i).st) ∧ w.cell? ⟨g, i * 2 + 1, none⟩ = some (.int .i64 (gs l i).vl) ∧ w.frozen? ⟨g, i * 2, none⟩ = false ∧ w.frozen? ⟨g, i * 2 + 1, none⟩ = false := by
  have h1 := ss_at (Ow.sl Slo.enc h) hi
  rw [Nat.zero_add] at h1
  obtain ⟨_, ⟨e, _⟩ | ⟨_, _, cur, e, _, hg, _⟩⟩ := h
  · cases e
  cases e
  exact ⟨h1.1, h1.2, by simp [World.frozen?, hg], by simp [World.frozen?, hg]⟩
theorem flat_setS : ∀ (l : List Slo) (i : Nat) (x : Int), (l.flatMap Slo.cells).set (i * 2) (.int .i64 x) = (l.set i ⟨x, (gs l i).vl⟩).flatMap Slo.cells
  | [], _, _ => rfl
  | _ :: _, 0, _ => rfl
  | e :: l, i + 1, x => by
    have ih := flat_setS l i x
    rw [show (i + 1) * 2 = i * 2 + 1 + 1 by omega]
    simp only [List.flatMap_cons, Slo.cells, List.cons_append, List.nil_append, List.set_cons_succ, gs, List.getD_cons_succ] at ih ⊢
    rw [ih]
theorem flat_setV : ∀ (l : List Slo) (i : Nat) (x : Int), (l.flatMap Slo.cells).set (i * 2 + 1) (.int .i64 x) = (l.set i ⟨(gs l i).st, x⟩).flatMap Slo.cells
  | [], _, _ => rfl
  | _ :: _, 0, _ => rfl
  | e :: l, i + 1, x => by
    have ih := flat_setV l i x
    rw [show (i + 1) * 2 + 1 = i * 2 + 1 + 1 + 1 by omega]
    simp only [List.flatMap_cons, Slo.cells, List.cons_append, List.nil_append, List.set_cons_succ, gs, List.getD_cons_succ] at ih ⊢
    rw [ih]
theorem Ow.setSt {w : World} {base g n cap : Nat} {l : List Slo} (h : Ow w base 64 2 Slo.cells l (.slice (some ⟨g, 0, none⟩) n cap)) (i : Nat) (x : Int) :
    Ow (w.setCell ⟨g, i * 2, none⟩ (.int .i64 x)) base 64 2 Slo.cells (l.set i ⟨x, (gs l i).vl⟩) (.slice (some ⟨g, 0, none⟩) n cap) := by
  obtain ⟨h0, ⟨h1, _⟩ | ⟨_, _, cur, h1, hb, hg, hl, hm, hs, ht⟩⟩ := h
  · cases h1
  cases h1
  refine ⟨flat_len Slo.enc _, .inr ⟨g, cap, cur.setIfInBounds (i * 2) (.int .i64 x), by rw [List.length_set], hb, ?_, by simpa using hl, hm, by simpa using hs, ?_⟩⟩
  · simp [World.setCell, Array.getElem?_modify, hg]
  · rw [← flat_setS l i x, ← ht, List.length_set]
    simp [List.take_set]
theorem Ow.setVl {w : World} {base g n cap : Nat} {l : List Slo} (h : Ow w base 64 2 Slo.cells l (.slice (some ⟨g, 0, none⟩) n cap)) (i : Nat) (x : Int) :
    Ow (w.setCell ⟨g, i * 2 + 1, none⟩ (.int .i64 x)) base 64 2 Slo.cells (l.set i ⟨(gs l i).st, x⟩) (.slice (some ⟨g, 0, none⟩) n cap) := by
  obtain ⟨h0, ⟨h1, _⟩ | ⟨_, _, cur, h1, hb, hg, hl, hm, hs, ht⟩⟩ := h
  · cases h1
  cases h1
  refine ⟨flat_len Slo.enc _, .inr ⟨g, cap, cur.setIfInBounds (i * 2 + 1) (.int .i64 x), by rw [List.length_set], hb, ?_, by simpa using hl, hm, by simpa using hs, ?_⟩⟩
  · simp [World.setCell, Array.getElem?_modify, hg]
  · rw [← flat_setV l i x, ← ht, List.length_set]
    simp [List.take_set]
theorem zero_slots (k : Nat) : (List.replicate k (⟨0, 0⟩ : Slo)).flatMap Slo.cells = List.replicate (k * 2) (.int .i64 0) := by
  induction k with
  | zero => rfl
  | succ k ih => rw [List.replicate_succ, List.flatMap_cons, ih, show (k + 1) * 2 = k * 2 + 1 + 1 by omega, List.replicate_succ, List.replicate_succ]; rfl
theorem made_slots (k : Nat) : (madeCells #[Value.int .i64 0, .int .i64 0] (k * 2)).toList = (List.replicate k (⟨0, 0⟩ : Slo)).flatMap Slo.cells := by
  rw [zero_slots]
  apply List.ext_getElem?
  intro j
  by_cases hj : j < k * 2
  · have : j % 2 = 0 ∨ j % 2 = 1 := by omega
    rcases this with e | e <;> simp [madeCells, hj, e]
  · rw [List.getElem?_eq_none (by simp [size_madeCells]; omega), List.getElem?_eq_none (by simp; omega)]
/-- A row of zeros. -/
theorem Ow.zeroS {w0 w : World} (k : Nat) (hk : k ≤ 1000) (hB : Below w0.heap.size w0 w) : Ow (w.alloc (.cells (madeCells #[Value.int .i64 0, .int .i64 0] (k * 2)) 64)) w0.heap.size 64 2 Slo.cells (List.replicate k ⟨0, 0⟩) (.slice (some ⟨w.heap.size, 0, none⟩) k k) := by
  have hl : (List.replicate k (⟨0, 0⟩ : Slo)).length = k := by simp
  exact Ow.made (W := w) (base := w0.heap.size) (e := 64) Slo.enc (List.replicate k ⟨0, 0⟩) (madeCells #[Value.int .i64 0, .int .i64 0] (k * 2)) (made_slots k) hB.size (by simp; unfold maxLen; omega) rfl hl
theorem mk_slots (c : Int) (k : Nat) (hc : c = (k : Int)) (hk : k ≤ 1000) (W : World) : (Instr.makeSlice 26 (.int .i64 c) (.int .i64 c)).run Tryz.prog W = .ok (.slice (some ⟨W.heap.size, 0, none⟩) k k) (W.alloc (.cells (madeCells #[Value.int .i64 0, .int .i64 0] (k * 2)) 64)) := by
  subst hc
  obtain ⟨i, hi, hz0, hz1, hz2⟩ := info_parts slo_info
  have := run_makeSlice (P := Tryz.prog) (w := W) 26 64 i (.agg #[.int .i64 0, .int .i64 0]) Tryz.underlying26 hi hz0 .i64 .i64 k k (by omega) (Int.le_refl _) (by rw [hz1]; simp; omega) (by rw [hz2]; omega) (by omega)
  rw [hz1] at this
  simpa [Value.cells] using this

/-- What a call that hands back slots of its own leaves. -/
def RetS (w : World) (r : List Slo) (e : Ending) (w' : World) : Prop :=
  ∃ g, e = .returned (.slice (some ⟨g, 0, none⟩) r.length r.length) ∧ w.heap.size ≤ g ∧ Ow w' w.heap.size 64 2 Slo.cells r (.slice (some ⟨g, 0, none⟩) r.length r.length) ∧ Kept w w'

theorem slaid_any (l : List Slo) (p : Option Addr) (k : Nat) (w : World) (hl : Sl w 2 Slo.cells l (.slice p l.length k)) (hm : l.length ≤ 1000) : Calls Tryz.prog 171 #[.slice p l.length k] w (RetS w l) := by
  have H := Lib.hid hl
  obtain ⟨N, hN⟩ : ∃ N, l.length = N := ⟨_, rfl⟩
  rw [hN] at hl hm
  unfold RetS
  rw [hN]
  have HN := Lib.hid hN
  have hmk := mk_slots N N rfl hm
  have HZ := Lib.hid (Ow.zeroS (w0 := w) (w := w) N hm (Below.refl _ _))
  have HL := Lib.hid (hl.kept (kept_alloc (Below.refl _ _) (.cells (madeCells #[Value.int .i64 0, .int .i64 0] (N * 2)) 64)))
  clear hN hl
  go_enter Tryz.func171, Tryz.ntmps171
  go_wp2_with (with_reducible refine wpList_copy_all (o := ⟨some 9, _, _, _, _, _⟩) (wb := w) rfl (.tmp 7) (.tmp 8) 26 26 rfl Tryz.underlying26 slo_size (by decide) Slo.enc rfl rfl (by simp) HN.out HZ.out HL.out (kept_alloc (Below.refl _ _) _) ?_; intro w1 ho1 hb1; have HO := Lib.hid ho1; clear ho1)
  go_ret
  exact ⟨w.heap.size, rfl, Nat.le_refl _, HO.out, hb1⟩
end Go.Proofs.YtcakapmpifnfpaaGreat

/- Layer 9: what a closure does to a slot; one changed; whether slots may be; places at first. -/
namespace Go.Proofs.YtcakapmpifnfpaaGreat
set_option linter.unusedVariables false
set_option linter.unusedSimpArgs false
open Go.ChangeShapes Go.WideShapes Go.ChangeAt Go.RowKit

theorem ow_mono {α : Type} {W : World} {a b k : Nat} {e : TypeId} {enc : α → List Value} {xs : List α} {v : Value} (h : Ow W b e k enc xs v) (hab : a ≤ b) : Ow W a e k enc xs v := by
  obtain ⟨h0, h1 | ⟨g, cap, cur, hv, hb, hg, hl, hm, hs, ht⟩⟩ := h
  · exact ⟨h0, .inl h1⟩
  · exact ⟨h0, .inr ⟨g, cap, cur, hv, by omega, hg, hl, hm, hs, ht⟩⟩
theorem place_val {p r c : Int} (hc : placeI p r = c) (hp : In64 p) (hr : In64 r) (w : World) :
    Calls Tryz.prog 75 #[.int .i64 p, .int .i64 r] w fun e w' => e = .returned (.int .i64 c) ∧ Kept w w' := hc ▸ place_any p r hp hr w
/-- What a function value does to the slot that it is handed, in each world that keeps w. -/
def Pokes (fn : Nat) (lb : Array Value) (f : Slo → Slo) (w : World) : Prop :=
  ∀ (W : World) (g n cap : Nat) (l : List Slo) (i : Nat), Below w.heap.size w W → i < l.length → Ow W w.heap.size 64 2 Slo.cells l (.slice (some ⟨g, 0, none⟩) n cap) →
    Calls Tryz.prog fn (#[.pointer (some ⟨g, i * 2, none⟩)] ++ lb) W fun e W' => e = .returned (.tuple #[]) ∧ Ow W' w.heap.size 64 2 Slo.cells (l.set i (f (gs l i))) (.slice (some ⟨g, 0, none⟩) n cap) ∧ Below w.heap.size w W'

theorem write1_pokes (v : Int) (b : Nat) (w : World) (hb : b < w.heap.size) (hc : w.cell? ⟨b, 0, none⟩ = some (.int .i64 v)) : Pokes 174 #[.pointer (some ⟨b, 0, none⟩)] (fun s => ⟨s.st, v⟩) w := by
  intro W g n cap l i hW hi hO
  have c1 := (hW.cell (p := ⟨b, 0, none⟩) hb).trans hc
  obtain ⟨-, c2, -, f2⟩ := Ow.slots hO hi
  have hg := (Ow.lt hO g rfl).1
  have HO := Lib.hid (Ow.setVl hO i v)
  clear hO
  show Calls Tryz.prog 174 #[.pointer (some ⟨g, i * 2, none⟩), .pointer (some ⟨b, 0, none⟩)] W _
  go_enter Tryz.func174, Tryz.ntmps174
  go_wp2
  go_end0
  exact ⟨rfl, HO.out, hW.setCell (p := ⟨_, _, none⟩) hg _⟩
theorem release1_pokes (q : Int) (N : Nat) (b c : Nat) (p : Option Addr) (k : Nat) (w : World) (hq : 0 ≤ q ∧ q ≤ 1099511627776) (hN : N ≤ 1000) (hb : b < w.heap.size) (hc : c < w.heap.size) (h1 : w.cell? ⟨b, 0, none⟩ = some (.int .i64 q)) (h2 : w.cell? ⟨c, 0, none⟩ = some (.slice p N k)) :
    Pokes 186 #[.pointer (some ⟨b, 0, none⟩), .pointer (some ⟨c, 0, none⟩)] (fun s => ⟨q + N, s.vl⟩) w := by
  intro W g n cap l i hW hi hO
  have c1 := (hW.cell (p := ⟨b, 0, none⟩) hb).trans h1
  have c3 := (hW.cell (p := ⟨c, 0, none⟩) hc).trans h2
  obtain ⟨c2, -, f2, -⟩ := Ow.slots hO hi
  have hg := (Ow.lt hO g rfl).1
  have hw : IntKind.i64.wrap (q + (N : Int)) = q + N := IntWalk.i64_in _ (by omega)
  have HO := Lib.hid (Ow.setSt hO i (q + N))
  clear hO
  show Calls Tryz.prog 186 #[.pointer (some ⟨g, i * 2, none⟩), .pointer (some ⟨b, 0, none⟩), .pointer (some ⟨c, 0, none⟩)] W _
  go_enter Tryz.func186, Tryz.ntmps186
  go_wp2
  go_end0
  exact ⟨rfl, HO.out, hW.setCell (p := ⟨_, _, none⟩) hg _⟩

set_option maxHeartbeats 1000000 in
theorem schanged_any (l : List Slo) (p : Int) (i : Nat) (fn : Nat) (lb : Array Value) (f : Slo → Slo) (a : Option Addr) (k : Nat) (w : World) (eg : ∀ args w, (callFunc fn args).run Tryz.prog w = .ok (.enter fn args) w)
    (hl : Sl w 2 Slo.cells l (.slice a l.length k)) (hm : l.length ≤ 1000) (hp : In64 p) (hpl : placeI p l.length = i) (hi : i < l.length) (hP : Pokes fn lb f w) :
    Calls Tryz.prog 173 #[.slice a l.length k, .int .i64 p, .func (.func fn) #[] lb] w (RetS w (l.set i (f (gs l i)))) := by
  have H := Lib.hid hl
  have HP := Lib.hid hP
  obtain ⟨N, hN⟩ : ∃ N, l.length = N := ⟨_, rfl⟩
  have HI := Lib.hid hi
  rw [hN] at hl hm hpl hi ⊢
  have HM := Lib.hid hpl
  have HN := Lib.hid hN
  unfold RetS
  rw [List.length_set, hN]
  have b1 : (0 : Int) ≤ (i : Int) := by omega
  have b2 : (i : Int) < (N : Int) := by omega
  clear hN hl hP hpl
  go_enter Tryz.func173, Tryz.ntmps173
  go_wp2_with fail
  have h0 := slaid_any l a k w H.out (by rw [HN.out]; exact hm)
  unfold RetS at h0
  rw [HN.out] at h0
  refine h0.mono ?_
  rintro e w1 ⟨g, rfl, hg, ho, hb1⟩
  have HO := Lib.hid ho
  clear ho h0
  go_wp2_with fail
  refine (place_val HM.out (by omega) (by omega) _).mono ?_
  rintro e w2 ⟨rfl, hb2⟩
  have hB : Below w.heap.size w w2 := kept_trans hb1 hb2
  have hcall := HP.out w2 g N N l i hB HI.out (Ow.kept HO.out hb2)
  clear HP
  go_wp2_with (go_at_fn fn; refine hcall.mono ?_; rintro e w3 ⟨rfl, ho3, hb3⟩; have HO3 := Lib.hid ho3; clear ho3)
  go_ret
  exact ⟨g, rfl, hg, HO3.out, hb3⟩

theorem sring_any (r : Int) (hr : In64 r) (w : World) : Calls Tryz.prog 57 #[.int .i64 r] w fun e w' => e = .returned (.bool (ringB r)) ∧ Kept w w' := by
  unfold ringB
  cases h1 : decide (1 ≤ r)
  · go_enter Tryz.func57, Tryz.ntmps57
    go_wp2
    go_ret
    exact ⟨rfl, by repeat' (first | (with_reducible exact Below.refl _ _) | (with_reducible assumption) | (with_reducible refine kept_alloc ?_ _) | (with_reducible refine kept_drewN ?_ _) | (with_reducible refine Below.drew ?_) | (with_reducible refine Below.setCell ?_ (by first | omega | (simp; omega) | (simp; done)) _) | (refine kept_trans ?_ (by with_reducible assumption)))⟩
  · go_enter Tryz.func57, Tryz.ntmps57
    go_wp2
    go_ret
    exact ⟨rfl, by repeat' (first | (with_reducible exact Below.refl _ _) | (with_reducible assumption) | (with_reducible refine kept_alloc ?_ _) | (with_reducible refine kept_drewN ?_ _) | (with_reducible refine Below.drew ?_) | (with_reducible refine Below.setCell ?_ (by first | omega | (simp; omega) | (simp; done)) _) | (refine kept_trans ?_ (by with_reducible assumption)))⟩
theorem sring_val {r : Int} {b : Bool} (hb : ringB r = b) (hr : In64 r) (w : World) : Calls Tryz.prog 57 #[.int .i64 r] w fun e w' => e = .returned (.bool b) ∧ Kept w w' := hb ▸ sring_any r hr w

/-- Stamps laid as far as place j. -/
def soFarS (k j : Nat) : List Slo := (List.range k).map fun (i : Nat) => (⟨if i < j then (i : Int) else 0, 0⟩ : Slo)
theorem soFarS_len (k j : Nat) : (soFarS k j).length = k := by simp [soFarS]
theorem soFarS_zero (k : Nat) : soFarS k 0 = List.replicate k ⟨0, 0⟩ := by
  apply List.ext_getElem
  · simp [soFarS]
  · intro i h1 h2; simp [soFarS]
theorem soFarS_all (k : Nat) : soFarS k k = (List.range k).map fun (i : Nat) => (⟨(i : Int), 0⟩ : Slo) := by
  unfold soFarS
  apply List.map_congr_left
  intro i hi
  rw [if_pos (List.mem_range.1 hi)]
theorem soFarS_set (k j : Nat) (hj : j < k) : (soFarS k j).set j ⟨(j : Int), (gs (soFarS k j) j).vl⟩ = soFarS k (j + 1) := by
  have hv : (gs (soFarS k j) j).vl = 0 := by rw [gs_eq (by rw [soFarS_len]; exact hj)]; simp [soFarS]
  rw [hv]
  apply List.ext_getElem
  · simp [soFarS]
  · intro i h1 h2
    simp only [soFarS, List.getElem_set, List.getElem_map, List.getElem_range]
    by_cases h : j = i
    · subst h; simp
    · rw [if_neg h]
      by_cases h3 : i < j
      · rw [if_pos h3, if_pos (by omega)]
      · rw [if_neg h3, if_neg (by omega)]

end Go.Proofs.YtcakapmpifnfpaaGreat

/- Layer 9: places at first. -/
namespace Go.Proofs.YtcakapmpifnfpaaGreat
set_option linter.unusedVariables false
set_option linter.unusedSimpArgs false
open Go.ChangeShapes Go.WideShapes Go.ChangeAt Go.RowKit
/-- What a call that hands back slots of its own, or none, leaves. -/
def RetN (w : World) (r : List Slo) (e : Ending) (w' : World) : Prop :=
  ∃ p k, e = .returned (.slice p r.length k) ∧ Ow w' w.heap.size 64 2 Slo.cells r (.slice p r.length k) ∧ Kept w w'
set_option maxHeartbeats 1000000 in
theorem snew_any (r : Int) (hr : In64 r) (w : World) : Calls Tryz.prog 33 #[.int .i64 r] w (RetN w (newL r)) := by
  unfold newL
  cases hb : ringB r
  · have HB := Lib.hid hb
    clear hb
    go_enter Tryz.func33, Tryz.ntmps33
    go_wp2_with fail
    refine (sring_val HB.out hr _).mono ?_
    rintro e w1 ⟨rfl, hg1⟩
    go_wp2
    go_ret
    exact ⟨none, 0, rfl, ⟨by simp, .inl ⟨rfl, rfl⟩⟩, by repeat' (first | (with_reducible exact Below.refl _ _) | (with_reducible assumption) | (with_reducible refine kept_alloc ?_ _) | (with_reducible refine kept_drewN ?_ _) | (with_reducible refine Below.drew ?_) | (with_reducible refine Below.setCell ?_ (by first | omega | (simp; omega) | (simp; done)) _) | (refine kept_trans ?_ (by with_reducible assumption)))⟩
  · obtain ⟨h1, h2⟩ := ring_iff.1 hb
    obtain ⟨k, hk⟩ : ∃ k : Nat, r = k := ⟨r.toNat, by omega⟩
    subst hk
    have HB := Lib.hid hb
    have hkm : k ≤ 1000 := by omega
    have hmk := mk_slots k k rfl hkm
    clear hb
    rw [if_pos rfl, Int.toNat_natCast, ← soFarS_all]
    go_enter Tryz.func33, Tryz.ntmps33
    go_wp2_with fail
    refine (sring_val HB.out hr _).mono ?_
    rintro e w1 ⟨rfl, hg1⟩
    have HZ := Lib.hid (Ow.zeroS (w0 := w) (w := w1) k hkm hg1)
    have hBz : Hid (Below w.heap.size w (w1.alloc (.cells (madeCells #[Value.int .i64 0, .int .i64 0] (k * 2)) 64))) := Lib.hid (by repeat' (first | (with_reducible exact Below.refl _ _) | (with_reducible assumption) | (with_reducible refine kept_alloc ?_ _) | (with_reducible refine kept_drewN ?_ _) | (with_reducible refine Below.drew ?_) | (with_reducible refine Below.setCell ?_ (by first | omega | (simp; omega) | (simp; done)) _) | (refine kept_trans ?_ (by with_reducible assumption))))
    go_wp2
    clear hmk
    go_loopw [4, 12] (fun _ i wr => ∃ j : Nat, j ≤ k ∧ i = .int .i64 j ∧ Ow wr w.heap.size 64 2 Slo.cells (soFarS k j) (.slice (some ⟨w1.heap.size, 0, none⟩) k k) ∧ Below w.heap.size w wr) (fun _ i _ => k - (intOf i).toNat)
    case atStart => exact ⟨0, by omega, rfl, by rw [soFarS_zero]; exact HZ.out, hBz.out⟩
    case round =>
      obtain ⟨j, hj, rfl, hO, hB⟩ := hrel
      have HO := Lib.hid hO
      clear hO HZ hBz
      by_cases hlt : j < k
      · have i1 : (0 : Int) ≤ (j : Int) := by omega
        have i2 : (j : Int) < (k : Int) := by omega
        have HS := Lib.hid (soFarS_len k j)
        obtain ⟨c2, -, f2, -⟩ := Ow.slots HO.out (i := j) (by rw [HS.out]; exact hlt)
        have hgb : w.heap.size ≤ w1.heap.size := (Ow.lt HO.out _ rfl).1
        go_wp2
        refine ⟨⟨j + 1, by omega, by go_num, ?_, ?_⟩, by simp [intOf]; omega⟩
        · rw [← soFarS_set k j hlt]; exact Ow.setSt HO.out j j
        · exact hB.setCell (p := ⟨w1.heap.size, j * 2, none⟩) hgb _
      · have hjk : j = k := by omega
        subst hjk
        go_wp2
        go_ret
        refine ⟨some ⟨w1.heap.size, 0, none⟩, j, by rw [soFarS_len]; rfl, ?_, by repeat' (first | (with_reducible exact Below.refl _ _) | (with_reducible assumption) | (with_reducible refine kept_alloc ?_ _) | (with_reducible refine kept_drewN ?_ _) | (with_reducible refine Below.drew ?_) | (with_reducible refine Below.setCell ?_ (by first | omega | (simp; omega) | (simp; done)) _) | (refine kept_trans ?_ (by with_reducible assumption)))⟩
        rw [soFarS_len]
        exact HO.out

theorem ok_falseS {l : List Slo} {j : Nat} (hj : j < l.length) (h : slotB l.length j (gs l j) = false) : okSl l = false := by
  cases hk : okSl l
  · rfl
  · rw [(ok_iff.1 hk).2 j hj] at h; cases h
theorem ok_ring {l : List Slo} (h : ringB l.length = false) : okSl l = false := by simp [okSl, h]
theorem ok_trueS {l : List Slo} (h : ringB l.length = true) (k : ∀ i, i < l.length → slotB l.length i (gs l i) = true) : okSl l = true := by
  rw [ok_iff]; exact ⟨by have := ring_iff.1 h; omega, k⟩
theorem below_succ {l : List Slo} {j n : Nat} (h : ∀ i, i < j → slotB n i (gs l i) = true) (k : slotB n j (gs l j) = true) : ∀ i, i < j + 1 → slotB n i (gs l i) = true := fun i hi => by
  by_cases e : i = j
  · subst e; exact k
  · exact h i (by omega)

set_option maxHeartbeats 2000000 in
theorem scheck_any (l : List Slo) (p : Option Addr) (k : Nat) (w : World) (hl : Sl w 2 Slo.cells l (.slice p l.length k)) (hm : l.length ≤ 1000) :
    Calls Tryz.prog 48 #[.slice p l.length k] w fun e w' => e = .returned (.bool (okSl l)) ∧ Kept w w' := by
  have H := Lib.hid hl
  obtain ⟨_, _, e1, _, _, _, hne⟩ := hl.is
  cases e1
  have HNE := Lib.hid hne
  cases hb : ringB l.length
  · rw [ok_ring hb]
    have HB := Lib.hid hb
    clear hl hne hb
    go_enter Tryz.func48, Tryz.ntmps48
    go_wp2_with fail
    refine (sring_val HB.out (by omega) _).mono ?_
    rintro e w1 ⟨rfl, hg1⟩
    go_wp2
    go_ret
    exact ⟨rfl, by repeat' (first | (with_reducible exact Below.refl _ _) | (with_reducible assumption) | (with_reducible refine kept_alloc ?_ _) | (with_reducible refine kept_drewN ?_ _) | (with_reducible refine Below.drew ?_) | (with_reducible refine Below.setCell ?_ (by first | omega | (simp; omega) | (simp; done)) _) | (refine kept_trans ?_ (by with_reducible assumption)))⟩
  · have HB := Lib.hid hb
    clear hl hne hb
    obtain ⟨N, hN⟩ : ∃ N, l.length = N := ⟨_, rfl⟩
    have HN := Lib.hid hN
    rw [hN] at hm ⊢
    have hbN : Hid (ringB N = true) := Lib.hid (by rw [← hN]; exact HB.out)
    clear hN
    go_enter Tryz.func48, Tryz.ntmps48
    go_wp2_with fail
    refine (sring_val hbN.out (by omega) _).mono ?_
    rintro e w1 ⟨rfl, hg1⟩
    go_wp2
    go_loopw [3, 4, 11] (fun _ _ i wr => ∃ j : Nat, j ≤ N ∧ i = .int .i64 j ∧ Hid (∀ i, i < j → slotB N i (gs l i) = true) ∧ Below w.heap.size w wr) (fun _ _ i _ => N - (intOf i).toNat)
    case atStart => exact ⟨0, by omega, rfl, Lib.hid (fun i hi => by omega), by repeat' (first | (with_reducible exact Below.refl _ _) | (with_reducible assumption) | (with_reducible refine kept_alloc ?_ _) | (with_reducible refine kept_drewN ?_ _) | (with_reducible refine Below.drew ?_) | (with_reducible refine Below.setCell ?_ (by first | omega | (simp; omega) | (simp; done)) _) | (refine kept_trans ?_ (by with_reducible assumption)))⟩
    case round =>
      obtain ⟨j, hj, rfl, T, hB⟩ := hrel
      clear hg1
      by_cases hlt : j < N
      · have hlt' : j < l.length := by rw [HN.out]; exact hlt
        have HX := Lib.hid hlt'
        obtain ⟨b, o, rfl, hb, -⟩ := HNE.out (by intro h; subst h; simp at hlt')
        obtain ⟨c1, c2⟩ := ss_at (H.out.kept hB) hlt'
        have hbw : b < wr.heap.size := Nat.lt_of_lt_of_le hb hB.size
        have i1 : (0 : Int) ≤ (j : Int) := by omega
        have i2 : (j : Int) < (N : Int) := by omega
        obtain ⟨z, hz⟩ : ∃ z, gs l j = z := ⟨_, rfl⟩
        rw [hz] at c1 c2
        have HZ := Lib.hid hz
        clear hz hlt'
        cases b1 : decide (z.st < 0)
        · cases b2 : decide (2199023255552 < z.st)
          · obtain ⟨P, hP⟩ : ∃ P, placeI z.st N = P := ⟨_, rfl⟩
            have HP := Lib.hid hP
            clear hP
            cases b3 : (P != (j : Int))
            · have hs : Hid (slotB N j (gs l j) = true) := Lib.hid (by
                rw [HZ.out, slot_iff, HP.out]; simp at b1 b2 b3; omega)
              go_wp2_with fail
              refine (place_val HP.out (by simp at b1 b2; omega) (by omega) _).mono ?_
              rintro e w2 ⟨rfl, hg2⟩
              go_wp2
              exact ⟨⟨j + 1, by omega, by go_num, Lib.hid (below_succ T.out hs.out), by repeat' (first | (with_reducible exact Below.refl _ _) | (with_reducible assumption) | (with_reducible refine kept_alloc ?_ _) | (with_reducible refine kept_drewN ?_ _) | (with_reducible refine Below.drew ?_) | (with_reducible refine Below.setCell ?_ (by first | omega | (simp; omega) | (simp; done)) _) | (refine kept_trans ?_ (by with_reducible assumption)))⟩, by simp [intOf]; omega⟩
            · have hs : Hid (slotB N j (gs l j) = false) := Lib.hid (by
                rw [← Bool.not_eq_true, HZ.out, slot_iff, HP.out]; simp at b3; omega)
              go_wp2_with fail
              refine (place_val HP.out (by simp at b1 b2; omega) (by omega) _).mono ?_
              rintro e w2 ⟨rfl, hg2⟩
              go_wp2; go_ret; exact ⟨ret_bool (ok_falseS HX.out (by rw [HN.out]; exact hs.out)).symm, by repeat' (first | (with_reducible exact Below.refl _ _) | (with_reducible assumption) | (with_reducible refine kept_alloc ?_ _) | (with_reducible refine kept_drewN ?_ _) | (with_reducible refine Below.drew ?_) | (with_reducible refine Below.setCell ?_ (by first | omega | (simp; omega) | (simp; done)) _) | (refine kept_trans ?_ (by with_reducible assumption)))⟩
          · have hs : Hid (slotB N j (gs l j) = false) := Lib.hid (by rw [← Bool.not_eq_true, HZ.out, slot_iff]; simp at b2; omega)
            go_wp2; go_ret; exact ⟨ret_bool (ok_falseS HX.out (by rw [HN.out]; exact hs.out)).symm, by repeat' (first | (with_reducible exact Below.refl _ _) | (with_reducible assumption) | (with_reducible refine kept_alloc ?_ _) | (with_reducible refine kept_drewN ?_ _) | (with_reducible refine Below.drew ?_) | (with_reducible refine Below.setCell ?_ (by first | omega | (simp; omega) | (simp; done)) _) | (refine kept_trans ?_ (by with_reducible assumption)))⟩
        · have hs : Hid (slotB N j (gs l j) = false) := Lib.hid (by rw [← Bool.not_eq_true, HZ.out, slot_iff]; simp at b1; omega)
          go_wp2; go_ret; exact ⟨ret_bool (ok_falseS HX.out (by rw [HN.out]; exact hs.out)).symm, by repeat' (first | (with_reducible exact Below.refl _ _) | (with_reducible assumption) | (with_reducible refine kept_alloc ?_ _) | (with_reducible refine kept_drewN ?_ _) | (with_reducible refine Below.drew ?_) | (with_reducible refine Below.setCell ?_ (by first | omega | (simp; omega) | (simp; done)) _) | (refine kept_trans ?_ (by with_reducible assumption)))⟩
      · have hjk : j = N := by omega
        subst hjk
        go_wp2
        go_ret
        exact ⟨ret_bool (ok_trueS HB.out (fun i hi => by rw [HN.out]; exact T.out i (by rw [← HN.out]; exact hi))).symm, by repeat' (first | (with_reducible exact Below.refl _ _) | (with_reducible assumption) | (with_reducible refine kept_alloc ?_ _) | (with_reducible refine kept_drewN ?_ _) | (with_reducible refine Below.drew ?_) | (with_reducible refine Below.setCell ?_ (by first | omega | (simp; omega) | (simp; done)) _) | (refine kept_trans ?_ (by with_reducible assumption)))⟩
theorem slies_any (l : List Slo) (q : Int) (p : Option Addr) (k : Nat) (w : World) (hl : Sl w 2 Slo.cells l (.slice p l.length k)) (hm : l.length ≤ 1000) :
    Calls Tryz.prog 170 #[.slice p l.length k, .int .i64 q] w fun e w' => e = .returned (.bool (liesS l q)) ∧ Kept w w' := by
  have H := Lib.hid hl
  unfold liesS
  clear hl
  cases h1 : decide (0 ≤ q)
  · go_enter Tryz.func170, Tryz.ntmps170
    go_wp2
    go_ret
    exact ⟨rfl, by repeat' (first | (with_reducible exact Below.refl _ _) | (with_reducible assumption) | (with_reducible refine kept_alloc ?_ _) | (with_reducible refine kept_drewN ?_ _) | (with_reducible refine Below.drew ?_) | (with_reducible refine Below.setCell ?_ (by first | omega | (simp; omega) | (simp; done)) _) | (refine kept_trans ?_ (by with_reducible assumption)))⟩
  · go_enter Tryz.func170, Tryz.ntmps170
    go_wp2_with fail
    refine (scheck_any l p k _ H.out hm).mono ?_
    rintro e w1 ⟨rfl, hg1⟩
    go_wp2
    go_ret
    exact ⟨ret_bool (by simp), by repeat' (first | (with_reducible exact Below.refl _ _) | (with_reducible assumption) | (with_reducible refine kept_alloc ?_ _) | (with_reducible refine kept_drewN ?_ _) | (with_reducible refine Below.drew ?_) | (with_reducible refine Below.setCell ?_ (by first | omega | (simp; omega) | (simp; done)) _) | (refine kept_trans ?_ (by with_reducible assumption)))⟩
theorem slies_val {l : List Slo} {q : Int} {b : Bool} (hb : liesS l q = b) (p : Option Addr) (k : Nat) (w : World) (hl : Sl w 2 Slo.cells l (.slice p l.length k)) (hm : l.length ≤ 1000) :
    Calls Tryz.prog 170 #[.slice p l.length k, .int .i64 q] w fun e w' => e = .returned (.bool b) ∧ Kept w w' := hb ▸ slies_any l q p k w hl hm

set_option maxHeartbeats 1000000 in
theorem sat_any (l : List Slo) (q : Int) (i : Nat) (p : Option Addr) (k : Nat) (w : World) (hl : Sl w 2 Slo.cells l (.slice p l.length k)) (hm : l.length ≤ 1000) (hq : In64 q) (hpl : placeI q l.length = i) (hi : i < l.length) :
    Calls Tryz.prog 189 #[.slice p l.length k, .int .i64 q] w fun e w' => e = .returned (.agg #[.int .i64 (gs l i).st, .int .i64 (gs l i).vl]) ∧ Kept w w' := by
  have H := Lib.hid hl
  obtain ⟨_, _, e1, _, _, _, hne⟩ := hl.is
  cases e1
  obtain ⟨b, o, rfl, hb, -⟩ := hne (by intro h; subst h; simp at hi)
  obtain ⟨c1, c2⟩ := ss_at hl hi
  have HM := Lib.hid hpl
  obtain ⟨N, hN⟩ : ∃ N, l.length = N := ⟨_, rfl⟩
  have HN := Lib.hid hN
  rw [hN] at hm hi ⊢
  have hM : Hid (placeI q N = i) := Lib.hid (by rw [← hN]; exact HM.out)
  have b1 : (0 : Int) ≤ (i : Int) := by omega
  have b2 : (i : Int) < (N : Int) := by omega
  clear hN hl hne hpl HM
  generalize gs l i = z at *
  go_enter Tryz.func189, Tryz.ntmps189
  go_wp2_with fail
  refine (place_val hM.out (by omega) (by omega) _).mono ?_
  rintro e w1 ⟨rfl, hg1⟩
  have hcs : CellsAt w1 [(w.heap.size, 0, .int .i64 0), (w.heap.size, 1, .int .i64 0)] := cells_keep hg1 (by (simp only [CellsAt]; (repeat' (first | exact trivial | (refine And.intro ?_ ?_))); all_goals (first | (focus ((try simp only [World.size_setCell, World.size_alloc]); omega)) | (repeat (first | rfl | assumption | (refine (World.cell?_alloc_past _ _ _ ?_).trans ?_; focus ((try simp only [World.size_setCell, World.size_alloc]); omega)) | (refine (World.cell?_alloc_at _ _ _ _ ?_).trans ?_; focus ((try simp only [World.size_setCell, World.size_alloc]); done)) | (refine (World.cell?_setCell_other _ _ _ _ ?_).trans ?_; focus (simp; done)) | (refine (World.cell?_setCell_other _ _ _ _ ?_).trans ?_; focus (simp; omega)) | (refine World.cell?_setCell_same' _ _ _ ?_; focus (simp; done)))))))
  have hq0 := hcs.1.2; have hq1 := hcs.2.1.2; have hz0 := hcs.1.1
  have hB1 : Below w.heap.size w w1 := by repeat' (first | (with_reducible exact Below.refl _ _) | (with_reducible assumption) | (with_reducible refine kept_alloc ?_ _) | (with_reducible refine kept_drewN ?_ _) | (with_reducible refine Below.drew ?_) | (with_reducible refine Below.setCell ?_ (by first | omega | (simp; omega) | (simp; done)) _) | (refine kept_trans ?_ (by with_reducible assumption)))
  have q5 := ((bcell hB1).1 _ (o + i * 2) hb).trans c1
  have q6 := ((bcell hB1).1 _ (o + i * 2 + 1) hb).trans c2
  have f1 : ∀ j, w1.frozen? ⟨w.heap.size, j, none⟩ = false := fun j => ((bcell hg1).2 _ j (by simp)).trans (World.frozen?_alloc_at _ _ _ _ rfl)
  go_wp2
  refine bodyPost_ret (v := .agg #[.int .i64 z.st, .int .i64 z.vl]) (by simp [results, Tryz.results189, go_sem, *]) rfl ⟨rfl, by repeat' (first | (with_reducible exact Below.refl _ _) | (with_reducible assumption) | (with_reducible refine kept_alloc ?_ _) | (with_reducible refine kept_drewN ?_ _) | (with_reducible refine Below.drew ?_) | (with_reducible refine Below.setCell ?_ (by first | omega | (simp; omega) | (simp; done)) _) | (refine kept_trans ?_ (by with_reducible assumption)))⟩
end Go.Proofs.YtcakapmpifnfpaaGreat

/- Layer 11: what each small call returns, as the plain functions say; what was there is kept. -/
namespace Go.Proofs.YtcakapmpifnfpaaGreat
set_option linter.unusedVariables false
set_option linter.unusedSimpArgs false
open Go.ChangeShapes Go.WideShapes Go.ChangeAt Go.RowKit

theorem oside_any (k : Int) (w : World) : Calls Tryz.prog 43 #[.int .i64 k] w fun e w' => e = .returned (.int .i64 (opSide k)) ∧ Kept w w' := by
  by_cases h : 1 ≤ k ∧ k ≤ 8
  · obtain rfl | rfl | rfl | rfl | rfl | rfl | rfl | rfl : k = 1 ∨ k = 2 ∨ k = 3 ∨ k = 4 ∨ k = 5 ∨ k = 6 ∨ k = 7 ∨ k = 8 := by omega
    all_goals
      go_enter Tryz.func43, Tryz.ntmps43
      go_wp2
      all_goals (go_ret; exact ⟨ret_int (by decide), by repeat' (first | (with_reducible exact Below.refl _ _) | (with_reducible assumption) | (with_reducible refine kept_alloc ?_ _) | (with_reducible refine kept_drewN ?_ _) | (with_reducible refine Below.drew ?_) | (with_reducible refine Below.setCell ?_ (by first | omega | (simp; omega) | (simp; done)) _) | (refine kept_trans ?_ (by with_reducible assumption)))⟩)
  · (have e1 : (k == 1) = false := by simp; omega); (have e2 : (k == 2) = false := by simp; omega); (have e3 : (k == 3) = false := by simp; omega); (have e4 : (k == 4) = false := by simp; omega); (have e5 : (k == 5) = false := by simp; omega); (have e6 : (k == 6) = false := by simp; omega); (have e7 : (k == 7) = false := by simp; omega); (have e8 : (k == 8) = false := by simp; omega)
    have e0 : opSide k = 0 := by have := side_is k; omega
    go_enter Tryz.func43, Tryz.ntmps43
    go_wp2
    all_goals (go_ret; exact ⟨ret_int (by first | rfl | exact e0.symm), by repeat' (first | (with_reducible exact Below.refl _ _) | (with_reducible assumption) | (with_reducible refine kept_alloc ?_ _) | (with_reducible refine kept_drewN ?_ _) | (with_reducible refine Below.drew ?_) | (with_reducible refine Below.setCell ?_ (by first | omega | (simp; omega) | (simp; done)) _) | (refine kept_trans ?_ (by with_reducible assumption)))⟩)
theorem ocheck_any (k : Int) (w : World) : Calls Tryz.prog 63 #[.int .i64 k] w fun e w' => e = .returned (.bool (opB k)) ∧ Kept w w' := by
  go_enter Tryz.func63, Tryz.ntmps63
  go_wp2_with (first | (go_at_call 43; refine (oside_any _ _).mono ?_; rintro e wx ⟨rfl, hgx⟩))
  all_goals (go_ret; exact ⟨ret_bool (by rw [opB_side]; first | rfl | simp), by repeat' (first | (with_reducible exact Below.refl _ _) | (with_reducible assumption) | (with_reducible refine kept_alloc ?_ _) | (with_reducible refine kept_drewN ?_ _) | (with_reducible refine Below.drew ?_) | (with_reducible refine Below.setCell ?_ (by first | omega | (simp; omega) | (simp; done)) _) | (refine kept_trans ?_ (by with_reducible assumption)))⟩)
theorem otimed_any (k : Int) (w : World) : Calls Tryz.prog 65 #[.int .i64 k] w fun e w' => e = .returned (.bool (opTimed k)) ∧ Kept w w' := by
  go_enter Tryz.func65, Tryz.ntmps65
  go_wp2
  all_goals (go_ret; exact ⟨ret_bool (by first | (rw [Bool.eq_iff_iff]; simp [opTimed]; omega) | (simp [opTimed, *]; done) | (simp [opTimed, *]; omega) | (simp [opTimed, *]; intros; omega)), by repeat' (first | (with_reducible exact Below.refl _ _) | (with_reducible assumption) | (with_reducible refine kept_alloc ?_ _) | (with_reducible refine kept_drewN ?_ _) | (with_reducible refine Below.drew ?_) | (with_reducible refine Below.setCell ?_ (by first | omega | (simp; omega) | (simp; done)) _) | (refine kept_trans ?_ (by with_reducible assumption)))⟩)
theorem oonce_any (k : Int) (w : World) : Calls Tryz.prog 187 #[.int .i64 k] w fun e w' => e = .returned (.bool (opOnce k)) ∧ Kept w w' := by
  go_enter Tryz.func187, Tryz.ntmps187
  go_wp2
  all_goals (go_ret; exact ⟨ret_bool (by first | (rw [Bool.eq_iff_iff]; simp [opOnce]; omega) | (simp [opOnce, *]; done) | (simp [opOnce, *]; omega) | (simp [opOnce, *]; intros; omega)), by repeat' (first | (with_reducible exact Below.refl _ _) | (with_reducible assumption) | (with_reducible refine kept_alloc ?_ _) | (with_reducible refine kept_drewN ?_ _) | (with_reducible refine Below.drew ?_) | (with_reducible refine Below.setCell ?_ (by first | omega | (simp; omega) | (simp; done)) _) | (refine kept_trans ?_ (by with_reducible assumption)))⟩)
set_option maxHeartbeats 1000000 in
theorem omay_any (lg th po wt sp yi : Int) (si : Bool) (i k : Int) (w : World) : Calls Tryz.prog 36 #[.agg #[.int .i64 lg, .int .i64 th, .int .i64 po, .int .i64 wt, .int .i64 sp, .int .i64 yi, .bool si], .int .i64 i, .int .i64 k] w fun e w' => e = .returned (.int .i64 (opMay th si i k)) ∧ Kept w w' := by
  by_cases a1 : i < 0
  · have e0 : opMay th si i k = 123 := by unfold opMay; rw [if_pos (by omega)]
    go_enter Tryz.func36, Tryz.ntmps36
    go_wp2
    all_goals (go_ret; exact ⟨ret_int (by first | rfl | exact e0.symm), by repeat' (first | (with_reducible exact Below.refl _ _) | (with_reducible assumption) | (with_reducible refine kept_alloc ?_ _) | (with_reducible refine kept_drewN ?_ _) | (with_reducible refine Below.drew ?_) | (with_reducible refine Below.setCell ?_ (by first | omega | (simp; omega) | (simp; done)) _) | (refine kept_trans ?_ (by with_reducible assumption)))⟩)
  by_cases a2 : th ≤ i
  · have e0 : opMay th si i k = 123 := by unfold opMay; rw [if_pos (by omega)]
    go_enter Tryz.func36, Tryz.ntmps36
    go_wp2
    all_goals (go_ret; exact ⟨ret_int (by first | rfl | exact e0.symm), by repeat' (first | (with_reducible exact Below.refl _ _) | (with_reducible assumption) | (with_reducible refine kept_alloc ?_ _) | (with_reducible refine kept_drewN ?_ _) | (with_reducible refine Below.drew ?_) | (with_reducible refine Below.setCell ?_ (by first | omega | (simp; omega) | (simp; done)) _) | (refine kept_trans ?_ (by with_reducible assumption)))⟩)
  cases b1 : opB k
  · have e0 : opMay th si i k = 190 := by unfold opMay; rw [if_neg (by omega), if_pos b1]
    go_enter Tryz.func36, Tryz.ntmps36
    go_wp2_with (first | (go_at_call 63; refine (ocheck_any _ _).mono ?_; rintro e wx ⟨rfl, hgx⟩; obtain ⟨hcx, hfx⟩ := bcell hgx; have hz0 : w.heap.size < wx.heap.size := (by have := hgx.size; (try simp at this); omega)) | (go_at_call 43; refine (oside_any _ _).mono ?_; rintro e wx ⟨rfl, hgx⟩; obtain ⟨hcx, hfx⟩ := bcell hgx; have hz0 : w.heap.size < wx.heap.size := (by have := hgx.size; (try simp at this); omega)))
    all_goals (go_ret; exact ⟨ret_int (by first | rfl | exact e0.symm), by repeat' (first | (with_reducible exact Below.refl _ _) | (with_reducible assumption) | (with_reducible refine kept_alloc ?_ _) | (with_reducible refine kept_drewN ?_ _) | (with_reducible refine Below.drew ?_) | (with_reducible refine Below.setCell ?_ (by first | omega | (simp; omega) | (simp; done)) _) | (refine kept_trans ?_ (by with_reducible assumption)))⟩)
  cases si
  · have e0 : opMay th false i k = 0 := by unfold opMay; rw [if_neg (by omega), if_neg (by simp [b1])]; simp
    go_enter Tryz.func36, Tryz.ntmps36
    go_wp2_with (first | (go_at_call 63; refine (ocheck_any _ _).mono ?_; rintro e wx ⟨rfl, hgx⟩; obtain ⟨hcx, hfx⟩ := bcell hgx; have hz0 : w.heap.size < wx.heap.size := (by have := hgx.size; (try simp at this); omega)) | (go_at_call 43; refine (oside_any _ _).mono ?_; rintro e wx ⟨rfl, hgx⟩; obtain ⟨hcx, hfx⟩ := bcell hgx; have hz0 : w.heap.size < wx.heap.size := (by have := hgx.size; (try simp at this); omega)))
    all_goals (go_ret; exact ⟨ret_int (by first | rfl | exact e0.symm), by repeat' (first | (with_reducible exact Below.refl _ _) | (with_reducible assumption) | (with_reducible refine kept_alloc ?_ _) | (with_reducible refine kept_drewN ?_ _) | (with_reducible refine Below.drew ?_) | (with_reducible refine Below.setCell ?_ (by first | omega | (simp; omega) | (simp; done)) _) | (refine kept_trans ?_ (by with_reducible assumption)))⟩)
  cases b2 : opSide k == 2
  · have e0 : opMay th true i k = 0 := by unfold opMay; rw [if_neg (by omega), if_neg (by simp [b1])]; simp at b2; simp [b2]
    go_enter Tryz.func36, Tryz.ntmps36
    go_wp2_with (first | (go_at_call 63; refine (ocheck_any _ _).mono ?_; rintro e wx ⟨rfl, hgx⟩; obtain ⟨hcx, hfx⟩ := bcell hgx; have hz0 : w.heap.size < wx.heap.size := (by have := hgx.size; (try simp at this); omega)) | (go_at_call 43; refine (oside_any _ _).mono ?_; rintro e wx ⟨rfl, hgx⟩; obtain ⟨hcx, hfx⟩ := bcell hgx; have hz0 : w.heap.size < wx.heap.size := (by have := hgx.size; (try simp at this); omega)))
    all_goals (go_ret; exact ⟨ret_int (by first | rfl | exact e0.symm), by repeat' (first | (with_reducible exact Below.refl _ _) | (with_reducible assumption) | (with_reducible refine kept_alloc ?_ _) | (with_reducible refine kept_drewN ?_ _) | (with_reducible refine Below.drew ?_) | (with_reducible refine Below.setCell ?_ (by first | omega | (simp; omega) | (simp; done)) _) | (refine kept_trans ?_ (by with_reducible assumption)))⟩)
  by_cases b3 : i = 0
  · have e0 : opMay th true i k = 0 := by unfold opMay; rw [if_neg (by omega), if_neg (by simp [b1])]; simp [b3]
    subst b3
    go_enter Tryz.func36, Tryz.ntmps36
    go_wp2_with (first | (go_at_call 63; refine (ocheck_any _ _).mono ?_; rintro e wx ⟨rfl, hgx⟩; obtain ⟨hcx, hfx⟩ := bcell hgx; have hz0 : w.heap.size < wx.heap.size := (by have := hgx.size; (try simp at this); omega)) | (go_at_call 43; refine (oside_any _ _).mono ?_; rintro e wx ⟨rfl, hgx⟩; obtain ⟨hcx, hfx⟩ := bcell hgx; have hz0 : w.heap.size < wx.heap.size := (by have := hgx.size; (try simp at this); omega)))
    all_goals (go_ret; exact ⟨ret_int (by first | rfl | exact e0.symm), by repeat' (first | (with_reducible exact Below.refl _ _) | (with_reducible assumption) | (with_reducible refine kept_alloc ?_ _) | (with_reducible refine kept_drewN ?_ _) | (with_reducible refine Below.drew ?_) | (with_reducible refine Below.setCell ?_ (by first | omega | (simp; omega) | (simp; done)) _) | (refine kept_trans ?_ (by with_reducible assumption)))⟩)
  · have e0 : opMay th true i k = 123 := by unfold opMay; rw [if_neg (by omega), if_neg (by simp [b1]), if_pos ⟨rfl, by simpa using b2, b3⟩]
    have d3 : (i == 0) = false := by simpa using b3
    go_enter Tryz.func36, Tryz.ntmps36
    go_wp2_with (first | (go_at_call 63; refine (ocheck_any _ _).mono ?_; rintro e wx ⟨rfl, hgx⟩; obtain ⟨hcx, hfx⟩ := bcell hgx; have hz0 : w.heap.size < wx.heap.size := (by have := hgx.size; (try simp at this); omega)) | (go_at_call 43; refine (oside_any _ _).mono ?_; rintro e wx ⟨rfl, hgx⟩; obtain ⟨hcx, hfx⟩ := bcell hgx; have hz0 : w.heap.size < wx.heap.size := (by have := hgx.size; (try simp at this); omega)))
    all_goals (go_ret; exact ⟨ret_int (by first | rfl | exact e0.symm), by repeat' (first | (with_reducible exact Below.refl _ _) | (with_reducible assumption) | (with_reducible refine kept_alloc ?_ _) | (with_reducible refine kept_drewN ?_ _) | (with_reducible refine Below.drew ?_) | (with_reducible refine Below.setCell ?_ (by first | omega | (simp; omega) | (simp; done)) _) | (refine kept_trans ?_ (by with_reducible assumption)))⟩)

end Go.Proofs.YtcakapmpifnfpaaGreat

/- Layer 12: what each small call returns, as the plain functions say; what was there is kept. -/
namespace Go.Proofs.YtcakapmpifnfpaaGreat
set_option linter.unusedVariables false
set_option linter.unusedSimpArgs false
open Go.ChangeShapes Go.WideShapes Go.ChangeAt Go.RowKit

theorem twithin_any (n l h : Int) (w : World) : Calls Tryz.prog 66 #[.int .i64 n, .int .i64 l, .int .i64 h] w fun e w' => e = .returned (.bool (thIn n l h)) ∧ Kept w w' := by
  go_enter Tryz.func66, Tryz.ntmps66
  go_wp2
  all_goals (go_ret; exact ⟨ret_bool (by first | (rw [Bool.eq_iff_iff]; simp [thIn]; omega) | (simp [thIn, *]; done) | (simp [thIn, *]; omega) | (simp [thIn, *]; intros; omega)), by repeat' (first | (with_reducible exact Below.refl _ _) | (with_reducible assumption) | (with_reducible refine kept_alloc ?_ _) | (with_reducible refine kept_drewN ?_ _) | (with_reducible refine Below.drew ?_) | (with_reducible refine Below.setCell ?_ (by first | omega | (simp; omega) | (simp; done)) _) | (refine kept_trans ?_ (by with_reducible assumption)))⟩)
theorem tidle_any {st ki va un pc re se tr rs go : Int} {la : Bool} (w : World) : Calls Tryz.prog 64 #[.agg #[.int .i64 st, .int .i64 ki, .int .i64 va, .int .i64 un, .int .i64 pc, .int .i64 re, .int .i64 se, .int .i64 tr, .bool la, .int .i64 rs, .int .i64 go]] w fun e w' => e = .returned (.bool (st == 0)) ∧ Kept w w' := by
  go_enter Tryz.func64, Tryz.ntmps64
  go_wp2
  all_goals (go_ret; exact ⟨ret_bool (by first | rfl | simp), by repeat' (first | (with_reducible exact Below.refl _ _) | (with_reducible assumption) | (with_reducible refine kept_alloc ?_ _) | (with_reducible refine kept_drewN ?_ _) | (with_reducible refine Below.drew ?_) | (with_reducible refine Below.setCell ?_ (by first | omega | (simp; omega) | (simp; done)) _) | (refine kept_trans ?_ (by with_reducible assumption)))⟩)
theorem ttimed_any {st ki va un pc re se tr rs go : Int} {la : Bool} (w : World) : Calls Tryz.prog 92 #[.agg #[.int .i64 st, .int .i64 ki, .int .i64 va, .int .i64 un, .int .i64 pc, .int .i64 re, .int .i64 se, .int .i64 tr, .bool la, .int .i64 rs, .int .i64 go]] w fun e w' => e = .returned (.bool (opTimed ki)) ∧ Kept w w' := by
  go_enter Tryz.func92, Tryz.ntmps92
  go_wp2_with (first | (go_at_call 65; refine (otimed_any _ _).mono ?_; rintro e wx ⟨rfl, hgx⟩; obtain ⟨hcx, hfx⟩ := bcell hgx; have hz0 : w.heap.size < wx.heap.size := (by have := hgx.size; (try simp at this); omega)))
  all_goals (go_ret; exact ⟨ret_bool (by first | rfl | simp), by repeat' (first | (with_reducible exact Below.refl _ _) | (with_reducible assumption) | (with_reducible refine kept_alloc ?_ _) | (with_reducible refine kept_drewN ?_ _) | (with_reducible refine Below.drew ?_) | (with_reducible refine Below.setCell ?_ (by first | omega | (simp; omega) | (simp; done)) _) | (refine kept_trans ?_ (by with_reducible assumption)))⟩)
theorem tdoes_any {st ki va un pc re se tr rs go : Int} {la : Bool} (w : World) : Calls Tryz.prog 79 #[.agg #[.int .i64 st, .int .i64 ki, .int .i64 va, .int .i64 un, .int .i64 pc, .int .i64 re, .int .i64 se, .int .i64 tr, .bool la, .int .i64 rs, .int .i64 go]] w fun e w' => e = .returned (.bool (thDoes st ki)) ∧ Kept w w' := by
  have hcs : CellsAt (w.alloc (.cells #[.int .i64 st, .int .i64 ki, .int .i64 va, .int .i64 un, .int .i64 pc, .int .i64 re, .int .i64 se, .int .i64 tr, .bool la, .int .i64 rs, .int .i64 go] 101)) [(w.heap.size, 0, .int .i64 st), (w.heap.size, 1, .int .i64 ki), (w.heap.size, 2, .int .i64 va), (w.heap.size, 3, .int .i64 un), (w.heap.size, 4, .int .i64 pc), (w.heap.size, 5, .int .i64 re), (w.heap.size, 6, .int .i64 se), (w.heap.size, 7, .int .i64 tr), (w.heap.size, 8, .bool la), (w.heap.size, 9, .int .i64 rs), (w.heap.size, 10, .int .i64 go)] := by (simp only [CellsAt]; (repeat' (first | exact trivial | (refine And.intro ?_ ?_))); all_goals (first | (focus ((try simp only [World.size_setCell, World.size_alloc]); omega)) | (repeat (first | rfl | assumption | (refine (World.cell?_alloc_past _ _ _ ?_).trans ?_; focus ((try simp only [World.size_setCell, World.size_alloc]); omega)) | (refine (World.cell?_alloc_at _ _ _ _ ?_).trans ?_; focus ((try simp only [World.size_setCell, World.size_alloc]); done)) | (refine (World.cell?_setCell_other _ _ _ _ ?_).trans ?_; focus (simp; done)) | (refine (World.cell?_setCell_other _ _ _ _ ?_).trans ?_; focus (simp; omega)) | (refine World.cell?_setCell_same' _ _ _ ?_; focus (simp; done))))))
  go_enter Tryz.func79, Tryz.ntmps79
  go_wp2_with (first | (go_at_call 64; refine (tidle_any _).mono ?_; rintro e wx ⟨rfl, hgx⟩; try (have hcs := cells_keep hgx hcs; have hq0 := hcs.1.2; have hq1 := hcs.2.1.2; have hq2 := hcs.2.2.1.2; have hq3 := hcs.2.2.2.1.2; have hq4 := hcs.2.2.2.2.1.2; have hq5 := hcs.2.2.2.2.2.1.2; have hq6 := hcs.2.2.2.2.2.2.1.2; have hq7 := hcs.2.2.2.2.2.2.2.1.2; have hq8 := hcs.2.2.2.2.2.2.2.2.1.2; have hq9 := hcs.2.2.2.2.2.2.2.2.2.1.2; have hq10 := hcs.2.2.2.2.2.2.2.2.2.2.1.2; have hz0 := hcs.1.1)) | (go_at_call 66; refine (twithin_any _ _ _ _).mono ?_; rintro e wx ⟨rfl, hgx⟩; try (have hcs := cells_keep hgx hcs; have hq0 := hcs.1.2; have hq1 := hcs.2.1.2; have hq2 := hcs.2.2.1.2; have hq3 := hcs.2.2.2.1.2; have hq4 := hcs.2.2.2.2.1.2; have hq5 := hcs.2.2.2.2.2.1.2; have hq6 := hcs.2.2.2.2.2.2.1.2; have hq7 := hcs.2.2.2.2.2.2.2.1.2; have hq8 := hcs.2.2.2.2.2.2.2.2.1.2; have hq9 := hcs.2.2.2.2.2.2.2.2.2.1.2; have hq10 := hcs.2.2.2.2.2.2.2.2.2.2.1.2; have hz0 := hcs.1.1)) | (go_at_call 63; refine (ocheck_any _ _).mono ?_; rintro e wx ⟨rfl, hgx⟩; try (have hcs := cells_keep hgx hcs; have hq0 := hcs.1.2; have hq1 := hcs.2.1.2; have hq2 := hcs.2.2.1.2; have hq3 := hcs.2.2.2.1.2; have hq4 := hcs.2.2.2.2.1.2; have hq5 := hcs.2.2.2.2.2.1.2; have hq6 := hcs.2.2.2.2.2.2.1.2; have hq7 := hcs.2.2.2.2.2.2.2.1.2; have hq8 := hcs.2.2.2.2.2.2.2.2.1.2; have hq9 := hcs.2.2.2.2.2.2.2.2.2.1.2; have hq10 := hcs.2.2.2.2.2.2.2.2.2.2.1.2; have hz0 := hcs.1.1)))
  all_goals (go_ret; exact ⟨ret_bool (by simp [thDoes, *]), by repeat' (first | (with_reducible exact Below.refl _ _) | (with_reducible assumption) | (with_reducible refine kept_alloc ?_ _) | (with_reducible refine kept_drewN ?_ _) | (with_reducible refine Below.drew ?_) | (with_reducible refine Below.setCell ?_ (by first | omega | (simp; omega) | (simp; done)) _) | (refine kept_trans ?_ (by with_reducible assumption)))⟩)
theorem twaits_any {st ki va un pc re se tr rs go : Int} {la : Bool} (w : World) : Calls Tryz.prog 80 #[.agg #[.int .i64 st, .int .i64 ki, .int .i64 va, .int .i64 un, .int .i64 pc, .int .i64 re, .int .i64 se, .int .i64 tr, .bool la, .int .i64 rs, .int .i64 go]] w fun e w' => e = .returned (.bool (thWaits ki un la)) ∧ Kept w w' := by
  have hcs : CellsAt (w.alloc (.cells #[.int .i64 st, .int .i64 ki, .int .i64 va, .int .i64 un, .int .i64 pc, .int .i64 re, .int .i64 se, .int .i64 tr, .bool la, .int .i64 rs, .int .i64 go] 101)) [(w.heap.size, 0, .int .i64 st), (w.heap.size, 1, .int .i64 ki), (w.heap.size, 2, .int .i64 va), (w.heap.size, 3, .int .i64 un), (w.heap.size, 4, .int .i64 pc), (w.heap.size, 5, .int .i64 re), (w.heap.size, 6, .int .i64 se), (w.heap.size, 7, .int .i64 tr), (w.heap.size, 8, .bool la), (w.heap.size, 9, .int .i64 rs), (w.heap.size, 10, .int .i64 go)] := by (simp only [CellsAt]; (repeat' (first | exact trivial | (refine And.intro ?_ ?_))); all_goals (first | (focus ((try simp only [World.size_setCell, World.size_alloc]); omega)) | (repeat (first | rfl | assumption | (refine (World.cell?_alloc_past _ _ _ ?_).trans ?_; focus ((try simp only [World.size_setCell, World.size_alloc]); omega)) | (refine (World.cell?_alloc_at _ _ _ _ ?_).trans ?_; focus ((try simp only [World.size_setCell, World.size_alloc]); done)) | (refine (World.cell?_setCell_other _ _ _ _ ?_).trans ?_; focus (simp; done)) | (refine (World.cell?_setCell_other _ _ _ _ ?_).trans ?_; focus (simp; omega)) | (refine World.cell?_setCell_same' _ _ _ ?_; focus (simp; done))))))
  go_enter Tryz.func80, Tryz.ntmps80
  go_wp2_with (first | (go_at_call 92; refine (ttimed_any _).mono ?_; rintro e wx ⟨rfl, hgx⟩; try (have hcs := cells_keep hgx hcs; have hq0 := hcs.1.2; have hq1 := hcs.2.1.2; have hq2 := hcs.2.2.1.2; have hq3 := hcs.2.2.2.1.2; have hq4 := hcs.2.2.2.2.1.2; have hq5 := hcs.2.2.2.2.2.1.2; have hq6 := hcs.2.2.2.2.2.2.1.2; have hq7 := hcs.2.2.2.2.2.2.2.1.2; have hq8 := hcs.2.2.2.2.2.2.2.2.1.2; have hq9 := hcs.2.2.2.2.2.2.2.2.2.1.2; have hq10 := hcs.2.2.2.2.2.2.2.2.2.2.1.2; have hz0 := hcs.1.1)) | (go_at_call 66; refine (twithin_any _ _ _ _).mono ?_; rintro e wx ⟨rfl, hgx⟩; try (have hcs := cells_keep hgx hcs; have hq0 := hcs.1.2; have hq1 := hcs.2.1.2; have hq2 := hcs.2.2.1.2; have hq3 := hcs.2.2.2.1.2; have hq4 := hcs.2.2.2.2.1.2; have hq5 := hcs.2.2.2.2.2.1.2; have hq6 := hcs.2.2.2.2.2.2.1.2; have hq7 := hcs.2.2.2.2.2.2.2.1.2; have hq8 := hcs.2.2.2.2.2.2.2.2.1.2; have hq9 := hcs.2.2.2.2.2.2.2.2.2.1.2; have hq10 := hcs.2.2.2.2.2.2.2.2.2.2.1.2; have hz0 := hcs.1.1)))
  all_goals (go_ret; exact ⟨ret_bool (by simp [thWaits, *]), by repeat' (first | (with_reducible exact Below.refl _ _) | (with_reducible assumption) | (with_reducible refine kept_alloc ?_ _) | (with_reducible refine kept_drewN ?_ _) | (with_reducible refine Below.drew ?_) | (with_reducible refine Below.setCell ?_ (by first | omega | (simp; omega) | (simp; done)) _) | (refine kept_trans ?_ (by with_reducible assumption)))⟩)
theorem tcounts_any {st ki va un pc re se tr rs go : Int} {la : Bool} (w : World) : Calls Tryz.prog 81 #[.agg #[.int .i64 st, .int .i64 ki, .int .i64 va, .int .i64 un, .int .i64 pc, .int .i64 re, .int .i64 se, .int .i64 tr, .bool la, .int .i64 rs, .int .i64 go]] w fun e w' => e = .returned (.bool (thCounts pc re se tr rs)) ∧ Kept w w' := by
  have hcs : CellsAt (w.alloc (.cells #[.int .i64 st, .int .i64 ki, .int .i64 va, .int .i64 un, .int .i64 pc, .int .i64 re, .int .i64 se, .int .i64 tr, .bool la, .int .i64 rs, .int .i64 go] 101)) [(w.heap.size, 0, .int .i64 st), (w.heap.size, 1, .int .i64 ki), (w.heap.size, 2, .int .i64 va), (w.heap.size, 3, .int .i64 un), (w.heap.size, 4, .int .i64 pc), (w.heap.size, 5, .int .i64 re), (w.heap.size, 6, .int .i64 se), (w.heap.size, 7, .int .i64 tr), (w.heap.size, 8, .bool la), (w.heap.size, 9, .int .i64 rs), (w.heap.size, 10, .int .i64 go)] := by (simp only [CellsAt]; (repeat' (first | exact trivial | (refine And.intro ?_ ?_))); all_goals (first | (focus ((try simp only [World.size_setCell, World.size_alloc]); omega)) | (repeat (first | rfl | assumption | (refine (World.cell?_alloc_past _ _ _ ?_).trans ?_; focus ((try simp only [World.size_setCell, World.size_alloc]); omega)) | (refine (World.cell?_alloc_at _ _ _ _ ?_).trans ?_; focus ((try simp only [World.size_setCell, World.size_alloc]); done)) | (refine (World.cell?_setCell_other _ _ _ _ ?_).trans ?_; focus (simp; done)) | (refine (World.cell?_setCell_other _ _ _ _ ?_).trans ?_; focus (simp; omega)) | (refine World.cell?_setCell_same' _ _ _ ?_; focus (simp; done))))))
  go_enter Tryz.func81, Tryz.ntmps81
  go_wp2_with (first | (go_at_call 66; refine (twithin_any _ _ _ _).mono ?_; rintro e wx ⟨rfl, hgx⟩; try (have hcs := cells_keep hgx hcs; have hq0 := hcs.1.2; have hq1 := hcs.2.1.2; have hq2 := hcs.2.2.1.2; have hq3 := hcs.2.2.2.1.2; have hq4 := hcs.2.2.2.2.1.2; have hq5 := hcs.2.2.2.2.2.1.2; have hq6 := hcs.2.2.2.2.2.2.1.2; have hq7 := hcs.2.2.2.2.2.2.2.1.2; have hq8 := hcs.2.2.2.2.2.2.2.2.1.2; have hq9 := hcs.2.2.2.2.2.2.2.2.2.1.2; have hq10 := hcs.2.2.2.2.2.2.2.2.2.2.1.2; have hz0 := hcs.1.1)))
  all_goals (go_ret; exact ⟨ret_bool (by simp [thCounts, *]), by repeat' (first | (with_reducible exact Below.refl _ _) | (with_reducible assumption) | (with_reducible refine kept_alloc ?_ _) | (with_reducible refine kept_drewN ?_ _) | (with_reducible refine Below.drew ?_) | (with_reducible refine Below.setCell ?_ (by first | omega | (simp; omega) | (simp; done)) _) | (refine kept_trans ?_ (by with_reducible assumption)))⟩)
theorem tended_any {st ki va un pc re se tr rs go : Int} {la : Bool} (w : World) : Calls Tryz.prog 93 #[.agg #[.int .i64 st, .int .i64 ki, .int .i64 va, .int .i64 un, .int .i64 pc, .int .i64 re, .int .i64 se, .int .i64 tr, .bool la, .int .i64 rs, .int .i64 go]] w fun e w' => e = .returned (.agg #[.int .i64 0, .int .i64 ki, .int .i64 va, .int .i64 un, .int .i64 0, .int .i64 0, .int .i64 0, .int .i64 0, .bool false, .int .i64 rs, .int .i64 go]) ∧ Kept w w' := by
  go_enter Tryz.func93, Tryz.ntmps93
  go_wp2
  refine bodyPost_ret (v := (.agg #[.int .i64 0, .int .i64 ki, .int .i64 va, .int .i64 un, .int .i64 0, .int .i64 0, .int .i64 0, .int .i64 0, .bool false, .int .i64 rs, .int .i64 go])) (by simp [results, Tryz.results93, go_sem, *]) rfl ?_
  exact ⟨rfl, by repeat' (first | (with_reducible exact Below.refl _ _) | (with_reducible assumption) | (with_reducible refine kept_alloc ?_ _) | (with_reducible refine kept_drewN ?_ _) | (with_reducible refine Below.drew ?_) | (with_reducible refine Below.setCell ?_ (by first | omega | (simp; omega) | (simp; done)) _) | (refine kept_trans ?_ (by with_reducible assumption)))⟩
theorem rests_dec (st ki va un pc re se tr rs go : Int) (la : Bool) : decide ((⟨st, ki, va, un, pc, re, se, tr, la, rs, go⟩ : Th) = ⟨0, ki, va, un, 0, 0, 0, 0, false, rs, go⟩) = thRests st pc re se tr la := by
  rw [Bool.eq_iff_iff]; simp [thRests]
theorem trests_any {st ki va un pc re se tr rs go : Int} {la : Bool} (w : World) : Calls Tryz.prog 82 #[.agg #[.int .i64 st, .int .i64 ki, .int .i64 va, .int .i64 un, .int .i64 pc, .int .i64 re, .int .i64 se, .int .i64 tr, .bool la, .int .i64 rs, .int .i64 go]] w fun e w' => e = .returned (.bool (thRests st pc re se tr la)) ∧ Kept w w' := by
  have hcmp : ∀ w : World, (binOp .eql 47 (.agg #[.int .i64 st, .int .i64 ki, .int .i64 va, .int .i64 un, .int .i64 pc, .int .i64 re, .int .i64 se, .int .i64 tr, .bool la, .int .i64 rs, .int .i64 go]) (.agg #[.int .i64 0, .int .i64 ki, .int .i64 va, .int .i64 un, .int .i64 0, .int .i64 0, .int .i64 0, .int .i64 0, .bool false, .int .i64 rs, .int .i64 go])).run Tryz.prog w = .ok (.bool (thRests st pc re se tr la)) w := fun w => (th_eql ⟨st, ki, va, un, pc, re, se, tr, la, rs, go⟩ ⟨0, ki, va, un, 0, 0, 0, 0, false, rs, go⟩ w).trans (by rw [rests_dec])
  go_enter Tryz.func82, Tryz.ntmps82
  go_wp2
  (refine wp_region_kept (w := w) [(w.heap.size, 0, .int .i64 st), (w.heap.size, 1, .int .i64 ki), (w.heap.size, 2, .int .i64 va), (w.heap.size, 3, .int .i64 un), (w.heap.size, 4, .int .i64 pc), (w.heap.size, 5, .int .i64 re), (w.heap.size, 6, .int .i64 se), (w.heap.size, 7, .int .i64 tr), (w.heap.size, 8, .bool la), (w.heap.size, 9, .int .i64 rs), (w.heap.size, 10, .int .i64 go)] (by kernel_rfl) (by kernel_rfl) (by repeat' (first | (with_reducible exact Below.refl _ _) | (with_reducible assumption) | (with_reducible refine kept_alloc ?_ _) | (with_reducible refine kept_drewN ?_ _) | (with_reducible refine Below.drew ?_) | (with_reducible refine Below.setCell ?_ (by first | omega | (simp; omega) | (simp; done)) _) | (refine kept_trans ?_ (by with_reducible assumption)))) (by first | exact hcs | (simp only [CellsAt]; (repeat' (first | exact trivial | (refine And.intro ?_ ?_))); all_goals (first | (focus ((try simp only [World.size_setCell, World.size_alloc]); omega)) | (repeat (first | rfl | assumption | (refine (World.cell?_alloc_past _ _ _ ?_).trans ?_; focus ((try simp only [World.size_setCell, World.size_alloc]); omega)) | (refine (World.cell?_alloc_at _ _ _ _ ?_).trans ?_; focus ((try simp only [World.size_setCell, World.size_alloc]); done)) | (refine (World.cell?_setCell_other _ _ _ _ ?_).trans ?_; focus (simp; done)) | (refine (World.cell?_setCell_other _ _ _ _ ?_).trans ?_; focus (simp; omega)) | (refine World.cell?_setCell_same' _ _ _ ?_; focus (simp; done))))))) (fun hne => ?_); (have hq0 : ∀ xwd : Wd w [(w.heap.size, 0, .int .i64 st), (w.heap.size, 1, .int .i64 ki), (w.heap.size, 2, .int .i64 va), (w.heap.size, 3, .int .i64 un), (w.heap.size, 4, .int .i64 pc), (w.heap.size, 5, .int .i64 re), (w.heap.size, 6, .int .i64 se), (w.heap.size, 7, .int .i64 tr), (w.heap.size, 8, .bool la), (w.heap.size, 9, .int .i64 rs), (w.heap.size, 10, .int .i64 go)], xwd.at.cell? ⟨w.heap.size, 0, none⟩ = some (.int .i64 st) := fun xwd => xwd.cells.1.2; have hq1 : ∀ xwd : Wd w [(w.heap.size, 0, .int .i64 st), (w.heap.size, 1, .int .i64 ki), (w.heap.size, 2, .int .i64 va), (w.heap.size, 3, .int .i64 un), (w.heap.size, 4, .int .i64 pc), (w.heap.size, 5, .int .i64 re), (w.heap.size, 6, .int .i64 se), (w.heap.size, 7, .int .i64 tr), (w.heap.size, 8, .bool la), (w.heap.size, 9, .int .i64 rs), (w.heap.size, 10, .int .i64 go)], xwd.at.cell? ⟨w.heap.size, 1, none⟩ = some (.int .i64 ki) := fun xwd => xwd.cells.2.1.2; have hq2 : ∀ xwd : Wd w [(w.heap.size, 0, .int .i64 st), (w.heap.size, 1, .int .i64 ki), (w.heap.size, 2, .int .i64 va), (w.heap.size, 3, .int .i64 un), (w.heap.size, 4, .int .i64 pc), (w.heap.size, 5, .int .i64 re), (w.heap.size, 6, .int .i64 se), (w.heap.size, 7, .int .i64 tr), (w.heap.size, 8, .bool la), (w.heap.size, 9, .int .i64 rs), (w.heap.size, 10, .int .i64 go)], xwd.at.cell? ⟨w.heap.size, 2, none⟩ = some (.int .i64 va) := fun xwd => xwd.cells.2.2.1.2; have hq3 : ∀ xwd : Wd w [(w.heap.size, 0, .int .i64 st), (w.heap.size, 1, .int .i64 ki), (w.heap.size, 2, .int .i64 va), (w.heap.size, 3, .int .i64 un), (w.heap.size, 4, .int .i64 pc), (w.heap.size, 5, .int .i64 re), (w.heap.size, 6, .int .i64 se), (w.heap.size, 7, .int .i64 tr), (w.heap.size, 8, .bool la), (w.heap.size, 9, .int .i64 rs), (w.heap.size, 10, .int .i64 go)], xwd.at.cell? ⟨w.heap.size, 3, none⟩ = some (.int .i64 un) := fun xwd => xwd.cells.2.2.2.1.2; have hq4 : ∀ xwd : Wd w [(w.heap.size, 0, .int .i64 st), (w.heap.size, 1, .int .i64 ki), (w.heap.size, 2, .int .i64 va), (w.heap.size, 3, .int .i64 un), (w.heap.size, 4, .int .i64 pc), (w.heap.size, 5, .int .i64 re), (w.heap.size, 6, .int .i64 se), (w.heap.size, 7, .int .i64 tr), (w.heap.size, 8, .bool la), (w.heap.size, 9, .int .i64 rs), (w.heap.size, 10, .int .i64 go)], xwd.at.cell? ⟨w.heap.size, 4, none⟩ = some (.int .i64 pc) := fun xwd => xwd.cells.2.2.2.2.1.2; have hq5 : ∀ xwd : Wd w [(w.heap.size, 0, .int .i64 st), (w.heap.size, 1, .int .i64 ki), (w.heap.size, 2, .int .i64 va), (w.heap.size, 3, .int .i64 un), (w.heap.size, 4, .int .i64 pc), (w.heap.size, 5, .int .i64 re), (w.heap.size, 6, .int .i64 se), (w.heap.size, 7, .int .i64 tr), (w.heap.size, 8, .bool la), (w.heap.size, 9, .int .i64 rs), (w.heap.size, 10, .int .i64 go)], xwd.at.cell? ⟨w.heap.size, 5, none⟩ = some (.int .i64 re) := fun xwd => xwd.cells.2.2.2.2.2.1.2; have hq6 : ∀ xwd : Wd w [(w.heap.size, 0, .int .i64 st), (w.heap.size, 1, .int .i64 ki), (w.heap.size, 2, .int .i64 va), (w.heap.size, 3, .int .i64 un), (w.heap.size, 4, .int .i64 pc), (w.heap.size, 5, .int .i64 re), (w.heap.size, 6, .int .i64 se), (w.heap.size, 7, .int .i64 tr), (w.heap.size, 8, .bool la), (w.heap.size, 9, .int .i64 rs), (w.heap.size, 10, .int .i64 go)], xwd.at.cell? ⟨w.heap.size, 6, none⟩ = some (.int .i64 se) := fun xwd => xwd.cells.2.2.2.2.2.2.1.2; have hq7 : ∀ xwd : Wd w [(w.heap.size, 0, .int .i64 st), (w.heap.size, 1, .int .i64 ki), (w.heap.size, 2, .int .i64 va), (w.heap.size, 3, .int .i64 un), (w.heap.size, 4, .int .i64 pc), (w.heap.size, 5, .int .i64 re), (w.heap.size, 6, .int .i64 se), (w.heap.size, 7, .int .i64 tr), (w.heap.size, 8, .bool la), (w.heap.size, 9, .int .i64 rs), (w.heap.size, 10, .int .i64 go)], xwd.at.cell? ⟨w.heap.size, 7, none⟩ = some (.int .i64 tr) := fun xwd => xwd.cells.2.2.2.2.2.2.2.1.2; have hq8 : ∀ xwd : Wd w [(w.heap.size, 0, .int .i64 st), (w.heap.size, 1, .int .i64 ki), (w.heap.size, 2, .int .i64 va), (w.heap.size, 3, .int .i64 un), (w.heap.size, 4, .int .i64 pc), (w.heap.size, 5, .int .i64 re), (w.heap.size, 6, .int .i64 se), (w.heap.size, 7, .int .i64 tr), (w.heap.size, 8, .bool la), (w.heap.size, 9, .int .i64 rs), (w.heap.size, 10, .int .i64 go)], xwd.at.cell? ⟨w.heap.size, 8, none⟩ = some (.bool la) := fun xwd => xwd.cells.2.2.2.2.2.2.2.2.1.2; have hq9 : ∀ xwd : Wd w [(w.heap.size, 0, .int .i64 st), (w.heap.size, 1, .int .i64 ki), (w.heap.size, 2, .int .i64 va), (w.heap.size, 3, .int .i64 un), (w.heap.size, 4, .int .i64 pc), (w.heap.size, 5, .int .i64 re), (w.heap.size, 6, .int .i64 se), (w.heap.size, 7, .int .i64 tr), (w.heap.size, 8, .bool la), (w.heap.size, 9, .int .i64 rs), (w.heap.size, 10, .int .i64 go)], xwd.at.cell? ⟨w.heap.size, 9, none⟩ = some (.int .i64 rs) := fun xwd => xwd.cells.2.2.2.2.2.2.2.2.2.1.2; have hq10 : ∀ xwd : Wd w [(w.heap.size, 0, .int .i64 st), (w.heap.size, 1, .int .i64 ki), (w.heap.size, 2, .int .i64 va), (w.heap.size, 3, .int .i64 un), (w.heap.size, 4, .int .i64 pc), (w.heap.size, 5, .int .i64 re), (w.heap.size, 6, .int .i64 se), (w.heap.size, 7, .int .i64 tr), (w.heap.size, 8, .bool la), (w.heap.size, 9, .int .i64 rs), (w.heap.size, 10, .int .i64 go)], xwd.at.cell? ⟨w.heap.size, 10, none⟩ = some (.int .i64 go) := fun xwd => xwd.cells.2.2.2.2.2.2.2.2.2.2.1.2); (try simp only [List.append_eq, List.cons_append, List.nil_append]); (repeat (go_big_quiet_step ((first | (go_at_call 93; exact quiet_call (tended_any _)))))); (refine wpQuiet_nil ?_); intro wq hwq; obtain ⟨xwd, hxwd⟩ := hwq; have hgx : Below w.heap.size w wq := (by rw [hxwd]; exact xwd.kept); have hcs := (show CellsAt wq [(w.heap.size, 0, .int .i64 st), (w.heap.size, 1, .int .i64 ki), (w.heap.size, 2, .int .i64 va), (w.heap.size, 3, .int .i64 un), (w.heap.size, 4, .int .i64 pc), (w.heap.size, 5, .int .i64 re), (w.heap.size, 6, .int .i64 se), (w.heap.size, 7, .int .i64 tr), (w.heap.size, 8, .bool la), (w.heap.size, 9, .int .i64 rs), (w.heap.size, 10, .int .i64 go)] by rw [hxwd]; exact xwd.cells); clear hxwd xwd hne)
  all_goals go_wp2
  all_goals (go_ret; exact ⟨rfl, by repeat' (first | (with_reducible exact Below.refl _ _) | (with_reducible assumption) | (with_reducible refine kept_alloc ?_ _) | (with_reducible refine kept_drewN ?_ _) | (with_reducible refine Below.drew ?_) | (with_reducible refine Below.setCell ?_ (by first | omega | (simp; omega) | (simp; done)) _) | (refine kept_trans ?_ (by with_reducible assumption)))⟩)
end Go.Proofs.YtcakapmpifnfpaaGreat
