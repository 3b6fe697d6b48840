/- Texts merged: StInT, TreT, EngGT, AcAT, ConfBT, ConfCT, ConfDT, SlVT, AskT, OpVT, AppT, LineGT, LineHT, LineIT. -/
import Derived.Test.YtbckpadeamlidaaGreatZe4
import Derived.Test.YtbckpadeamlidaaGreatZe5
import Derived.Test.YtbckpadeamlidaaGreatZe3
import Derived.LoopTactic
import Derived.Lib.Hide
import Derived.Shelf.Slices.Delete
import Derived.Deep.RegionHeld3
import Derived.IntWalk
namespace Go.Proofs.YtbckpadeamlidaaGreat
set_option linter.unusedVariables false
set_option linter.unusedSimpArgs false
set_option maxRecDepth 100000
section
open Go.ChangeShapes Go.WideShapes Go.ChangeAt Go.RowKit
structure SlP {α:Type} (P:Nat→Prop) (W:World) (k:Nat) (enc:α→List Value) (xs:List α) (p:Option Addr) (n c:Nat):Prop where
 s:Sl W k enc xs (.slice p n c)
 i:xs≠[]→∀ a,p=some a→P a.block
theorem Sl.out {α:Type} {W W' : World} {k n c b:Nat} {enc:α→List Value} {xs:List α} {p:Option Addr} (h:Sl W k enc xs (.slice p n c)) (ho:Out [b] W W') (hne:xs≠[]→∀ a,p=some a→a.block≠b):Sl W' k enc xs (.slice p n c):=by
 obtain ⟨q,cap,hv,h1,h2,h3,h4⟩:=h.is
 cases hv
 refine ⟨p,c,rfl,h1,h2,h3,fun hx=>?_⟩
 obtain ⟨g,o,rfl,hg,hc⟩:=h4 hx
 refine ⟨g,o,rfl,Nat.lt_of_lt_of_le hg ho.size,fun i x hi l hl=>?_⟩
 have hb:=ho.block g hg (by simpa using hne hx _ rfl)
 rw [← hc i x hi l hl]
 simp [World.cell?,hb]
theorem SlP.kept {α:Type} {P:Nat→Prop} {W W' : World} {k n c:Nat} {enc:α→List Value} {xs:List α} {p:Option Addr} (h:SlP P W k enc xs p n c) (hg:Below W.heap.size W W'):SlP P W' k enc xs p n c:=⟨h.s.kept hg,h.i⟩
theorem SlP.out {α:Type} {P:Nat→Prop} {W W' : World} {k n c b:Nat} {enc:α→List Value} {xs:List α} {p:Option Addr} (h:SlP P W k enc xs p n c) (ho:Out [b] W W') (hb:¬ P b):SlP P W' k enc xs p n c:=⟨h.s.out ho (fun hx a ha e=>hb (e ▸ h.i hx a ha)),h.i⟩
theorem SlP.mono {α:Type} {P P' : Nat→Prop} {W:World} {k n c:Nat} {enc:α→List Value} {xs:List α} {p:Option Addr} (h:SlP P W k enc xs p n c) (hp:∀ g,P g→P' g):SlP P' W k enc xs p n c:=⟨h.s,fun hx a ha=>hp _ (h.i hx a ha)⟩
theorem SlP.lt {α:Type} {P:Nat→Prop} {W:World} {k n c:Nat} {enc:α→List Value} {xs:List α} {p:Option Addr} (h:SlP P W k enc xs p n c):SlP (fun g=>P g∧g<W.heap.size) W k enc xs p n c:=⟨h.s,fun hx a ha=>⟨h.i hx a ha,by
 obtain ⟨q,cap,hv,_,_,_,h4⟩:=h.s.is
 cases hv
 obtain ⟨g,o,e,hg,_⟩:=h4 hx
 rw [ha] at e;cases e;exact hg⟩⟩
theorem Sl.loc {α:Type} {W:World} {k n c:Nat} {enc:α→List Value} {xs:List α} {p:Option Addr} (h:Sl W k enc xs (.slice p n c)):SlP (fun g=>g<W.heap.size) W k enc xs p n c:=⟨h,fun hx a ha=>by
 obtain ⟨q,cap,hv,_,_,_,h4⟩:=h.is
 cases hv
 obtain ⟨g,o,e,hg,_⟩:=h4 hx
 rw [ha] at e;cases e;exact hg⟩
theorem Ow.loc {α:Type} {W:World} {base k n c:Nat} {e:TypeId} {enc:α→List Value} {xs:List α} {p:Option Addr} (he:Enc k enc) (h:Ow W base e k enc xs (.slice p n c)):SlP (fun g=>base≤g) W k enc xs p n c:=⟨Ow.sl he h,fun _ a ha=>by subst ha;exact (Ow.lt h a.block rfl).1⟩
structure St.few (s:St):Prop where
 sl:s.sl.length≤1000
 sn:s.sn.length≤1000
 rc:s.rc.length≤1000
 fl:s.fl.length≤1000
 el:s.el.length≤1000
 th:s.th.length≤1000
 lg:s.lg.length≤1000
structure StIn (P:Nat→Prop) (W:World) (s:St) (z:Pz):Prop where
 sl:SlP P W 2 Slo.cells s.sl z.p1 s.sl.length z.k1
 sn:SlP P W 1 intC s.sn z.p2 s.sn.length z.k2
 rc:SlP P W 1 intC s.rc z.p3 s.rc.length z.k3
 fl:SlP P W 1 intC s.fl z.p4 s.fl.length z.k4
 el:SlP P W 1 intC s.el z.p5 s.el.length z.k5
 th:SlP P W 11 Th.cells s.th z.p6 s.th.length z.k6
 lg:SlP P W 5 En.cells s.lg z.p7 s.lg.length z.k7
variable {P P' : Nat→Prop} {W W' : World} {s:St} {z:Pz}
theorem StIn.at (h:StIn P W s z):StAt W s z:=⟨h.sl.s,h.sn.s,h.rc.s,h.fl.s,h.el.s,h.th.s,h.lg.s⟩
theorem StIn.kept (h:StIn P W s z) (hg:Below W.heap.size W W'):StIn P W' s z:=⟨h.sl.kept hg,h.sn.kept hg,h.rc.kept hg,h.fl.kept hg,h.el.kept hg,h.th.kept hg,h.lg.kept hg⟩
theorem StIn.out {b:Nat} (h:StIn P W s z) (ho:Out [b] W W') (hb:¬ P b):StIn P W' s z:=⟨h.sl.out ho hb,h.sn.out ho hb,h.rc.out ho hb,h.fl.out ho hb,h.el.out ho hb,h.th.out ho hb,h.lg.out ho hb⟩
theorem StIn.mono (h:StIn P W s z) (hp:∀ g,P g→P' g):StIn P' W s z:=⟨h.sl.mono hp,h.sn.mono hp,h.rc.mono hp,h.fl.mono hp,h.el.mono hp,h.th.mono hp,h.lg.mono hp⟩
theorem StIn.lt (h:StIn P W s z):StIn (fun g=>P g∧g<W.heap.size) W s z:=⟨h.sl.lt,h.sn.lt,h.rc.lt,h.fl.lt,h.el.lt,h.th.lt,h.lg.lt⟩
theorem StAt.loc (h:StAt W s z):StIn (fun g=>g<W.heap.size) W s z:=⟨h.sl.loc,h.sn.loc,h.rc.loc,h.fl.loc,h.el.loc,h.th.loc,h.lg.loc⟩
def KP.st (P:Nat→Prop) (r:St):KP:=⟨fun v W=>∃ z:Pz,v = .agg #[.int .i64 r.cf.lg,.int .i64 r.cf.th,.int .i64 r.cf.po,.int .i64 r.cf.wt,.int .i64 r.cf.sp,.int .i64 r.cf.yi,.bool r.cf.si,.int .i64 r.hd,.int .i64 r.tl,.int .i64 r.md,.slice z.p1 r.sl.length z.k1,.slice z.p2 r.sn.length z.k2,.slice z.p3 r.rc.length z.k3,.int .i64 r.fe,.slice z.p4 r.fl.length z.k4,.int .i64 r.ee,.slice z.p5 r.el.length z.k5,.int .i64 r.nw,.slice z.p6 r.th.length z.k6,.slice z.p7 r.lg.length z.k7]∧StIn P W r z,fun ⟨z,e,h⟩ hg=>⟨z,e,h.kept hg⟩⟩
end
section
open Go.RowKit
def slT (x:Slo):Value:=.agg #[.int .i64 x.st,.int .i64 x.vl]
def thT (t:Th):Value:=.agg #[.int .i64 t.st,.int .i64 t.ki,.int .i64 t.va,.int .i64 t.un,.int .i64 t.pc,.int .i64 t.re,.int .i64 t.se,.int .i64 t.tr,.bool t.la,.int .i64 t.rs,.int .i64 t.go]
def enT (e:En):Value:=.agg #[.int .i64 e.th,.int .i64 e.ki,.int .i64 e.va,.int .i64 e.re,.int .i64 e.go]
def cfT (c:Cf):Value:=.agg #[.int .i64 c.lg,.int .i64 c.th,.int .i64 c.po,.int .i64 c.wt,.int .i64 c.sp,.int .i64 c.yi,.bool c.si]
def rowI (l:List Int):Value:=vRow l.length (l.map (.int .i64 ·))
def rowS (l:List Slo):Value:=vRow l.length (l.map slT)
def rowT (l:List Th):Value:=vRow l.length (l.map thT)
def rowE (l:List En):Value:=vRow l.length (l.map enT)
def stT (s:St):Value:=.agg #[.int .i64 s.cf.lg,.int .i64 s.cf.th,.int .i64 s.cf.po,.int .i64 s.cf.wt,.int .i64 s.cf.sp,.int .i64 s.cf.yi,.bool s.cf.si,.int .i64 s.hd,.int .i64 s.tl,.int .i64 s.md,rowS s.sl,rowI s.sn,rowI s.rc,.int .i64 s.fe,rowI s.fl,.int .i64 s.ee,rowI s.el,.int .i64 s.nw,rowT s.th,rowE s.lg]
def wdT (h t m:Int):Value:=.agg #[.int .i64 h,.int .i64 t,.int .i64 m]
def evT (e:Int) (l:List Int):Value:=.agg #[.int .i64 e,rowI l]
section
variable {O:Nat→Prop} {W:World}
def AtmV (v:Value):Prop:=∀ (ρ:PMap) (O:Nat→Prop) (W:World) (c:Value),Rp ρ O W v c↔c=v
theorem atm_int (k:IntKind) (n:Int):AtmV (.int k n):=fun _ _ _ _=>rp_int
theorem atm_bool (b:Bool):AtmV (.bool b):=fun _ _ _ _=>rp_bool
def isAtm:Value→Bool
 | .int _ _ | .bool _=>true
 | _=>false
theorem isAtm_all {xs:List Value} (h:xs.all isAtm=true):∀ x∈xs,AtmV x:=fun x hx=>by
 have:=List.all_eq_true.1 h x hx
 unfold isAtm at this
 split at this
 ·exact atm_int _ _
 ·exact atm_bool _
 ·cases this
theorem rp_rowG {α:Type} {f:α→Value} {enc:α→List Value} {k:Nat} (hf:∀ x,(f x).cells=(enc x).toArray) (hk:∀ x,(enc x).length=k) (ha0:∀ x,(enc x).all isAtm=true) {xs:List α} {c:Value} :
  Rp nowhere O W (vRow xs.length (xs.map f)) c↔∃ p cap,c = .slice p xs.length cap∧SlP (fun g=>¬ O g) W k enc xs p xs.length cap:=by
 have ha:∀ x,∀ u∈enc x,AtmV u:=fun x=>isAtm_all (ha0 x)
 unfold vRow
 rw [rp_row]
 have hsz:(xs.map f).toArray.size=xs.length:=by simp
 constructor
 ·rintro ⟨p,cap,-,-,rfl,h1,h2,h3,h4⟩
  rw [hsz] at h1 h4 ⊢
  refine ⟨p,cap,rfl,⟨⟨p,cap,rfl,h1,h2,h3,fun hne=>?_⟩⟩,fun hne a hpa=>?_⟩
  ·obtain ⟨g,o,k',rfl,hg,hO,hc⟩:=h4 (by cases xs with | nil=>exact absurd rfl hne | cons _ _=>simp)
   have hk' : k' = k:=by
    cases xs with
    | nil=>exact absurd rfl hne
    | cons x r=>have:=(hc 0 (f x) (by simp)).1;rw [hf] at this;simp [hk] at this;exact this.symm
   subst hk'
   refine ⟨g,o,rfl,hg,fun i x hi j hj=>?_⟩
   obtain ⟨-,hcell⟩:=hc i (f x) (by simp [hi])
   rw [hf] at hcell
   have hj' : j<(enc x).length:=by rw [hk];exact hj
   obtain ⟨u,hu,hr⟩:=hcell j (enc x)[j] (by simp [hj'])
   rw [(ha x _ (List.getElem_mem hj')) nowhere O W u] at hr
   rw [hu,hr,List.getElem?_eq_getElem hj']
  ·obtain ⟨g,o,k',hp,hg,hO,hc⟩:=h4 (by cases xs with | nil=>exact absurd rfl hne | cons _ _=>simp)
   rw [hpa] at hp;cases hp;exact hO
 ·rintro ⟨p,cap,rfl,h1,h2⟩
  obtain ⟨p',cap',he,h3,h4,h5,h6⟩:=h1.is
  cases he
  refine ⟨p,cap,rfl,by simp,by simp,by simpa using h3,h4,h5,fun hne=>?_⟩
  have hx:xs≠[]:=by intro e;subst e;simp at hne
  obtain ⟨g,o,hp,hg,hc⟩:=h6 hx
  refine ⟨g,o,k,hp,hg,h2 hx _ hp,fun n el hel=>?_⟩
  simp only [List.getElem?_toArray,List.getElem?_map] at hel
  obtain ⟨x,hx',rfl⟩:=Option.map_eq_some_iff.1 hel
  rw [hf]
  refine ⟨by simp [hk],fun j u hu=>?_⟩
  have hu' : (enc x)[j]? = some u:=by simpa using hu
  have hj:j<k:=by rw [← hk x];exact (List.getElem?_eq_some_iff.1 hu').1
  refine ⟨u,(hc n x hx' j hj).trans hu',(ha x u (List.mem_of_getElem? hu') nowhere O W u).2 rfl⟩
theorem rp_rowI {l:List Int} {c:Value}:Rp nowhere O W (rowI l) c↔∃ p cap,c = .slice p l.length cap∧SlP (fun g=>¬ O g) W 1 intC l p l.length cap :=
 rp_rowG (f:=(.int .i64 ·)) (enc:=intC) (fun _=>rfl) (fun _=>rfl) (fun _=>rfl)
theorem rp_rowS {l:List Slo} {c:Value}:Rp nowhere O W (rowS l) c↔∃ p cap,c = .slice p l.length cap∧SlP (fun g=>¬ O g) W 2 Slo.cells l p l.length cap :=
 rp_rowG (f:=slT) (enc:=Slo.cells) (fun _=>rfl) (fun _=>rfl) (fun _=>rfl)
theorem rp_rowT {l:List Th} {c:Value}:Rp nowhere O W (rowT l) c↔∃ p cap,c = .slice p l.length cap∧SlP (fun g=>¬ O g) W 11 Th.cells l p l.length cap :=
 rp_rowG (f:=thT) (enc:=Th.cells) (fun _=>rfl) (fun _=>rfl) (fun _=>rfl)
theorem rp_rowE {l:List En} {c:Value}:Rp nowhere O W (rowE l) c↔∃ p cap,c = .slice p l.length cap∧SlP (fun g=>¬ O g) W 5 En.cells l p l.length cap :=
 rp_rowG (f:=enT) (enc:=En.cells) (fun _=>rfl) (fun _=>rfl) (fun _=>rfl)
def Cells (R:Value→Value→Prop):List Value→List Value→Prop
 | [],ys=>ys=[]
 | x::xs,ys=>∃ y r,ys=y::r∧R x y∧Cells R xs r
theorem cells_at {R:Value→Value→Prop}:∀ {xs ys:List Value},AtAll R xs.toArray ys.toArray↔Cells R xs ys
 | [],ys=>by
  constructor
  ·intro h;have:=h.1;simp at this;exact this
  ·intro h;cases h;exact ⟨rfl,fun i x hx=>by simp at hx⟩
 | x::xs,ys=>by
  constructor
  ·intro h
   match ys,h with
   | [],h=>have:=h.1;simp at this
   | y::r,h =>
    obtain ⟨u,hu,hr⟩:=h.2 0 x (by simp)
    simp at hu;subst hu
    exact ⟨y,r,rfl,hr,cells_at.1 ⟨by have:=h.1;simpa using this,fun i z hz=>by
     obtain ⟨u,hu,hr⟩:=h.2 (i+1) z (by simpa using hz)
     exact ⟨u,by simpa using hu,hr⟩⟩⟩
  ·rintro ⟨y,r,rfl,h1,h2⟩
   have h3:=cells_at.2 h2
   refine ⟨by have:=h3.1;simpa using this,fun i z hz=>?_⟩
   cases i with
   | zero=>simp at hz;subst hz;exact ⟨y,by simp,h1⟩
   | succ i =>
    obtain ⟨u,hu,hr⟩:=h3.2 i z (by simpa using hz)
    exact ⟨u,by simpa using hu,hr⟩
theorem rp_aggL {ρ:PMap} {xs:List Value} {c:Value}:Rp ρ O W (.agg xs.toArray) c↔∃ ys:List Value,c = .agg ys.toArray∧Cells (Rp ρ O W) xs ys:=by
 rw [rp_agg]
 constructor
 ·rintro ⟨ys,rfl,h⟩;exact ⟨ys.toList,by simp,cells_at.1 (by simpa using h)⟩
 ·rintro ⟨ys,rfl,h⟩;exact ⟨ys.toArray,rfl,cells_at.2 h⟩
theorem rp_tupL {ρ:PMap} {xs:List Value} {c:Value}:Rp ρ O W (.tuple xs.toArray) c↔∃ ys:List Value,c = .tuple ys.toArray∧Cells (Rp ρ O W) xs ys:=by
 rw [rp_tuple]
 constructor
 ·rintro ⟨ys,rfl,h⟩;exact ⟨ys.toList,by simp,cells_at.1 (by simpa using h)⟩
 ·rintro ⟨ys,rfl,h⟩;exact ⟨ys.toArray,rfl,cells_at.2 h⟩
theorem atm_cells:∀ {xs ys:List Value} {ρ:PMap},(∀ x∈xs,AtmV x)→(Cells (Rp ρ O W) xs ys↔ys=xs)
 | [],ys,ρ,_=>Iff.rfl
 | x::xs,ys,ρ,h=>by
  simp only [Cells]
  constructor
  ·rintro ⟨y,r,rfl,h1,h2⟩
   rw [h x (by simp) ρ O W y] at h1
   rw [atm_cells fun z hz=>h z (by simp [hz])] at h2
   rw [h1,h2]
  ·rintro rfl
   exact ⟨x,xs,rfl,(h x (by simp) ρ O W x).2 rfl,(atm_cells fun z hz=>h z (by simp [hz])).2 rfl⟩
theorem rp_atm {ρ:PMap} {xs:List Value} (h:∀ x∈xs,AtmV x) {c:Value}:Rp ρ O W (.agg xs.toArray) c↔c = .agg xs.toArray:=by
 rw [rp_aggL]
 constructor
 ·rintro ⟨ys,rfl,h1⟩;rw [atm_cells h] at h1;rw [h1]
 ·rintro rfl;exact ⟨xs,rfl,(atm_cells h).2 rfl⟩
theorem rp_thT {ρ:PMap} {t:Th} {c:Value}:Rp ρ O W (thT t) c↔c = .agg #[.int .i64 t.st,.int .i64 t.ki,.int .i64 t.va,.int .i64 t.un,.int .i64 t.pc,.int .i64 t.re,.int .i64 t.se,.int .i64 t.tr,.bool t.la,.int .i64 t.rs,.int .i64 t.go]:=rp_atm (isAtm_all rfl)
theorem rp_cfT {ρ:PMap} {s:Cf} {c:Value}:Rp ρ O W (cfT s) c↔c = .agg #[.int .i64 s.lg,.int .i64 s.th,.int .i64 s.po,.int .i64 s.wt,.int .i64 s.sp,.int .i64 s.yi,.bool s.si]:=rp_atm (isAtm_all rfl)
theorem rp_wdT {ρ:PMap} {h t m:Int} {c:Value}:Rp ρ O W (wdT h t m) c↔c = .agg #[.int .i64 h,.int .i64 t,.int .i64 m]:=rp_atm (isAtm_all rfl)
theorem rp_stT {s:St} {c:Value}:Rp nowhere O W (stT s) c↔∃ z:Pz,c = .agg #[.int .i64 s.cf.lg,.int .i64 s.cf.th,.int .i64 s.cf.po,.int .i64 s.cf.wt,.int .i64 s.cf.sp,.int .i64 s.cf.yi,.bool s.cf.si,.int .i64 s.hd,.int .i64 s.tl,.int .i64 s.md,.slice z.p1 s.sl.length z.k1,.slice z.p2 s.sn.length z.k2,.slice z.p3 s.rc.length z.k3,.int .i64 s.fe,.slice z.p4 s.fl.length z.k4,.int .i64 s.ee,.slice z.p5 s.el.length z.k5,.int .i64 s.nw,.slice z.p6 s.th.length z.k6,.slice z.p7 s.lg.length z.k7]∧StIn (fun g=>¬ O g) W s z:=by
 unfold stT
 rw [show (#[.int .i64 s.cf.lg,.int .i64 s.cf.th,.int .i64 s.cf.po,.int .i64 s.cf.wt,.int .i64 s.cf.sp,.int .i64 s.cf.yi,.bool s.cf.si,.int .i64 s.hd,.int .i64 s.tl,.int .i64 s.md,rowS s.sl,rowI s.sn,rowI s.rc,.int .i64 s.fe,rowI s.fl,.int .i64 s.ee,rowI s.el,.int .i64 s.nw,rowT s.th,rowE s.lg]:Array Value)=[.int .i64 s.cf.lg,.int .i64 s.cf.th,.int .i64 s.cf.po,.int .i64 s.cf.wt,.int .i64 s.cf.sp,.int .i64 s.cf.yi,.bool s.cf.si,.int .i64 s.hd,.int .i64 s.tl,.int .i64 s.md,rowS s.sl,rowI s.sn,rowI s.rc,.int .i64 s.fe,rowI s.fl,.int .i64 s.ee,rowI s.el,.int .i64 s.nw,rowT s.th,rowE s.lg].toArray from rfl,rp_aggL]
 constructor
 ·rintro ⟨ys,rfl,_,_,rfl,h0,_,_,rfl,h1,_,_,rfl,h2,_,_,rfl,h3,_,_,rfl,h4,_,_,rfl,h5,_,_,rfl,h6,_,_,rfl,h7,_,_,rfl,h8,_,_,rfl,h9,_,_,rfl,h10,_,_,rfl,h11,_,_,rfl,h12,_,_,rfl,h13,_,_,rfl,h14,_,_,rfl,h15,_,_,rfl,h16,_,_,rfl,h17,_,_,rfl,h18,_,_,rfl,h19,rfl⟩
  rw [rp_int] at h0 h1 h2 h3 h4 h5 h7 h8 h9 h13 h15 h17
  rw [rp_bool] at h6
  obtain ⟨p1,k1,rfl,s1⟩:=rp_rowS.1 h10
  obtain ⟨p2,k2,rfl,s2⟩:=rp_rowI.1 h11
  obtain ⟨p3,k3,rfl,s3⟩:=rp_rowI.1 h12
  obtain ⟨p4,k4,rfl,s4⟩:=rp_rowI.1 h14
  obtain ⟨p5,k5,rfl,s5⟩:=rp_rowI.1 h16
  obtain ⟨p6,k6,rfl,s6⟩:=rp_rowT.1 h18
  obtain ⟨p7,k7,rfl,s7⟩:=rp_rowE.1 h19
  exact ⟨⟨p1,k1,p2,k2,p3,k3,p4,k4,p5,k5,p6,k6,p7,k7⟩,by rw [h0,h1,h2,h3,h4,h5,h6,h7,h8,h9,h13,h15,h17],⟨s1,s2,s3,s4,s5,s6,s7⟩⟩
 ·rintro ⟨z,rfl,h⟩
  exact ⟨_,rfl,_,_,rfl,rp_int.2 rfl,_,_,rfl,rp_int.2 rfl,_,_,rfl,rp_int.2 rfl,_,_,rfl,rp_int.2 rfl,_,_,rfl,rp_int.2 rfl,_,_,rfl,rp_int.2 rfl,_,_,rfl,rp_bool.2 rfl,_,_,rfl,rp_int.2 rfl,_,_,rfl,rp_int.2 rfl,_,_,rfl,rp_int.2 rfl,_,_,rfl,rp_rowS.2 ⟨_,_,rfl,h.sl⟩,_,_,rfl,rp_rowI.2 ⟨_,_,rfl,h.sn⟩,_,_,rfl,rp_rowI.2 ⟨_,_,rfl,h.rc⟩,_,_,rfl,rp_int.2 rfl,_,_,rfl,rp_rowI.2 ⟨_,_,rfl,h.fl⟩,_,_,rfl,rp_int.2 rfl,_,_,rfl,rp_rowI.2 ⟨_,_,rfl,h.el⟩,_,_,rfl,rp_int.2 rfl,_,_,rfl,rp_rowT.2 ⟨_,_,rfl,h.th⟩,_,_,rfl,rp_rowE.2 ⟨_,_,rfl,h.lg⟩,rfl⟩
theorem args_of {R:Value→Value→Prop} {xs:List Value} {vs:Array Value} (h:AtAll R xs.toArray vs):∃ ys:List Value,vs=ys.toArray∧Cells R xs ys:=⟨vs.toList,by simp,cells_at.1 (by simpa using h)⟩
end
end
section
open Go.RowKit
theorem an {a b:Prop} (h:a) (k:b):a∧b:=⟨h,k⟩
def loops:Code→List Code
 | .loop a=>a::loops a
 | .seq a b=>loops a++loops b
 | .cond _ a b=>loops a++loops b
 | .block _ a=>loops a
 | .rangeFunc _ _ a b=>loops a++loops b
 | .scope a=>loops a
 | _=>[]
def loopOf (P:Program) (g:FuncId) (k:Nat):Code :=
 match P.funcs[g]? with
 | some fn=>match fn.body with
  | some c=>((loops c)[k]?).getD .skip
  | none=>.skip
 | none=>.skip
def regions:Code→List Code
 | .region id ops true=>[.region id ops true]
 | .loop a=>regions a
 | .seq a b=>regions a++regions b
 | .cond _ a b=>regions a++regions b
 | .block _ a=>regions a
 | .scope a=>regions a
 | _=>[]
def regOf (P:Program) (g:FuncId) (k:Nat):Code :=
 match P.funcs[g]? with
 | some fn=>match fn.body with
  | some c=>((regions c)[k]?).getD .skip
  | none=>.skip
 | none=>.skip
def evRound (P:Program) (ext:List FuncId) (fuel n:Nat) (im keep:List Nat) (c:Code) (s:Sg) (orc:List Value):Option (Exit×Sg×Prop) :=
 match evCode P ext (evFn P ext fuel n) fuel c s orc with
 | some (x,s1,[],ob)=>(canon im keep s1).map fun s2=>(x,s2,conj ob)
 | _=>none
section
variable {P:Program}
theorem loop_more (hm:P.follows .mixedOrders=true) {ext:List FuncId} {fuel n:Nat} {im keep:List Nat} {c:Code} {s s1 s' : Sg} {orc:List Value} {x:Exit} {A:Prop} (hA:A) (h:evRound P ext fuel n im keep c s orc=some (.normal,s1,A)) (hL:LoopP P c s1 x s'):LoopP P c s x s' := by
 unfold evRound at h
 split at h
 ·next x1 s2 ob hev =>
  obtain ⟨s3,hc,he⟩:=Option.map_eq_some_iff.1 h
  cases he
  obtain ⟨m,hm'⟩:=hL
  refine ⟨m+1,fun ρ O a W Q hH hT hK=>?_⟩
  rw [rounds_succ]
  refine evCode_ok hm (evFn_ok hm n) c hev hA ρ O a W _ hH hT fun ρ' O' a' W' hH' hT' hE=>?_
  obtain ⟨h1,h2,h3,-⟩:=canon_ok hc hH' hT'
  exact hm' _ _ _ _ Q h1 h2 fun ρ'' O'' a'' W'' h4 h5 h6=>hK ρ'' O'' a'' W'' h4 h5 ((hE.toL hH).trans (h3.trans h6 hH'.low) hH.low)
 ·cases h
theorem loop_end (hm:P.follows .mixedOrders=true) {ext:List FuncId} {fuel n:Nat} {im keep:List Nat} {c:Code} {s s1:Sg} {orc:List Value} {x:Exit} {A:Prop} (hA:A) (hx:x≠.normal) (h:evRound P ext fuel n im keep c s orc=some (x,s1,A)):LoopP P c s x s1:=by
 unfold evRound at h
 split at h
 ·next x1 s2 ob hev =>
  obtain ⟨s3,hc,he⟩:=Option.map_eq_some_iff.1 h
  cases he
  refine ⟨1,fun ρ O a W Q hH hT hK=>?_⟩
  rw [rounds_succ]
  refine evCode_ok hm (evFn_ok hm n) c hev hA ρ O a W _ hH hT fun ρ' O' a' W' hH' hT' hE=>?_
  obtain ⟨h1,h2,h3,-⟩:=canon_ok hc hH' hT'
  have:=hK _ _ a' W' h1 h2 ((hE.toL hH).trans h3 hH.low)
  cases x with
  | normal=>exact absurd rfl hx
  | _=>exact this
 ·cases h
theorem goto_more (hm:P.follows .mixedOrders=true) {ext:List FuncId} {fuel n l:Nat} {im keep:List Nat} {c:Code} {s s1 s' : Sg} {orc:List Value} {x:Exit} {A:Prop} (hA:A) (h:evRound P ext fuel n im keep c s orc=some (.goto l,s1,A)) (hL:GotoP P l c s1 x s'):GotoP P l c s x s' := by
 unfold evRound at h
 split at h
 ·next x1 s2 ob hev =>
  obtain ⟨s3,hc,he⟩:=Option.map_eq_some_iff.1 h
  cases he
  obtain ⟨m,hm'⟩:=hL
  refine ⟨m+1,fun ρ O a W Q hH hT hK=>evCode_ok hm (evFn_ok hm n) c hev hA ρ O a W _ hH hT fun ρ' O' a' W' hH' hT' hE=>?_⟩
  obtain ⟨h1,h2,h3,-⟩:=canon_ok hc hH' hT'
  exact ⟨rfl,hm' _ _ _ _ Q h1 h2 fun ρ'' O'' a'' W'' h4 h5 h6=>hK ρ'' O'' a'' W'' h4 h5 ((hE.toL hH).trans (h3.trans h6 hH'.low) hH.low)⟩
 ·cases h
theorem goto_end (hm:P.follows .mixedOrders=true) {ext:List FuncId} {fuel n l:Nat} {im keep:List Nat} {c:Code} {s s1:Sg} {orc:List Value} {x:Exit} {A:Prop} (hA:A) (hx:∀ l',x≠.goto l') (h:evRound P ext fuel n im keep c s orc=some (x,s1,A)):GotoP P l c s x s1:=by
 unfold evRound at h
 split at h
 ·next x1 s2 ob hev =>
  obtain ⟨s3,hc,he⟩:=Option.map_eq_some_iff.1 h
  cases he
  refine ⟨1,fun ρ O a W Q hH hT hK=>evCode_ok hm (evFn_ok hm n) c hev hA ρ O a W _ hH hT fun ρ' O' a' W' hH' hT' hE=>?_⟩
  obtain ⟨h1,h2,h3,-⟩:=canon_ok hc hH' hT'
  have:=hK _ _ a' W' h1 h2 ((hE.toL hH).trans h3 hH.low)
  cases x with
  | goto l' => exact absurd rfl (hx l')
  | _=>exact this
 ·cases h
def gotoOf (P:Program) (g:FuncId):Code :=
 match P.funcs[g]? with
 | some fn=>match fn.body with
  | some (.seq _ (.scope c))=>match lbl c with
   | some (_,r)=>r
   | none=>.skip
  | _=>.skip
 | none=>.skip
def idN (K:Nat) (im:List Nat) (n:Nat):Bool:=Nat.ble K n&&(List.range K).all fun k=>im[k]? == some k
theorem idN_ok {K n:Nat} {im:List Nat} (h:idN K im n=true):K≤n∧∀ k,k<K→im[k]? = some k:=by
 simp only [idN,Bool.and_eq_true,Nat.ble_eq] at h
 exact ⟨h.1,fun k hk=>by simpa using List.all_eq_true.1 h.2 k (List.mem_range.2 hk)⟩
theorem same_num {ρ ρ' : PMap} {O O' : Nat→Prop} {H H' : List (Option Blk)} {W W' : World} (hE:Ext ρ O H W ρ' O' H' W') {k:Nat} (hk:k<H.length):ρ' k=ρ k:=by
 cases h:ρ k with
 | some p=>exact hE.sub k p h
 | none =>
  cases h' : ρ' k with
  | none=>rfl
  | some p =>
   rcases hE.new k p h' with h1 | ⟨h1,-⟩
   ·rw [h] at h1;cases h1
   ·omega
theorem can_num {ρ ρ' : PMap} {O O' : Nat→Prop} {H H' : List (Option Blk)} {W W' : World} (hE:Ext ρ O H W ρ' O' H' W') {K:Nat} {im:List Nat} (h:idN K im H.length=true) {k:Nat} (hk:k<K):canR ρ' im k=ρ k:=by
 obtain ⟨h1,h2⟩:=idN_ok h
 unfold canR
 rw [h2 k hk]
 exact same_num hE (by omega)
theorem loopK_more (hm:P.follows .mixedOrders=true) {ext:List FuncId} {fuel n K:Nat} {im keep:List Nat} {c:Code} {s s1 s' : Sg} {orc:List Value} {x:Exit} {A:Prop} (hA:A) (h:evRound P ext fuel n im keep c s orc=some (.normal,s1,A)) (hi:idN K im s.H.length=true) (hL:LoopK P K c s1 x s'):LoopK P K c s x s' := by
 unfold evRound at h
 split at h
 ·next x1 s2 ob hev =>
  obtain ⟨s3,hc,he⟩:=Option.map_eq_some_iff.1 h
  cases he
  obtain ⟨m,hm'⟩:=hL
  refine ⟨m+1,fun ρ O a W Q hH hT hK=>?_⟩
  rw [rounds_succ]
  refine evCode_ok hm (evFn_ok hm n) c hev hA ρ O a W _ hH hT fun ρ' O' a' W' hH' hT' hE=>?_
  obtain ⟨h1,h2,h3,-⟩:=canon_ok hc hH' hT'
  exact hm' _ _ _ _ Q h1 h2 fun ρ'' O'' a'' W'' h4 h5 h6 h7=>hK ρ'' O'' a'' W'' h4 h5 ((hE.toL hH).trans (h3.trans h6 hH'.low) hH.low) fun k hk=>(h7 k hk).trans (can_num hE hi hk)
 ·cases h
theorem loopK_end (hm:P.follows .mixedOrders=true) {ext:List FuncId} {fuel n K:Nat} {im keep:List Nat} {c:Code} {s s1:Sg} {orc:List Value} {x:Exit} {A:Prop} (hA:A) (hx:x≠.normal) (h:evRound P ext fuel n im keep c s orc=some (x,s1,A)) (hi:idN K im s.H.length=true):LoopK P K c s x s1:=by
 unfold evRound at h
 split at h
 ·next x1 s2 ob hev =>
  obtain ⟨s3,hc,he⟩:=Option.map_eq_some_iff.1 h
  cases he
  refine ⟨1,fun ρ O a W Q hH hT hK=>?_⟩
  rw [rounds_succ]
  refine evCode_ok hm (evFn_ok hm n) c hev hA ρ O a W _ hH hT fun ρ' O' a' W' hH' hT' hE=>?_
  obtain ⟨h1,h2,h3,-⟩:=canon_ok hc hH' hT'
  have:=hK _ _ a' W' h1 h2 ((hE.toL hH).trans h3 hH.low) fun k hk=>can_num hE hi hk
  cases x with
  | normal=>exact absurd rfl hx
  | _=>exact this
 ·cases h
def evRunO (P:Program) (ext:List FuncId) (fuel n:Nat) (g:FuncId) (args orc:List Value) (pos:Nat):Option (List Value×Nat×Prop) :=
 match evFn P ext fuel n g args [] orc with
 | some (.agg xs,H,[],ob)=>match xs.toList[pos]? with
  | some (.slice (some ⟨i,0,some 0⟩) m _)=>match look H i with
   | some b=>match lendL (lendA (look H)) (xs.toList.set pos (.slice none 0 0)) with
    | some (al,is,ps)=>if is.all (fun i=>(look H i).isSome) && !(is.any fun j=>j==i)&&b.arr then some (al.set pos (vRow b.n b.els),b.k,conj (ob++(m=b.n∧m=b.els.length)::ps)) else none
    | none=>none
   | none=>none
  | _=>none
 | _=>none
theorem ao_path (hm:P.follows .mixedOrders=true) {ext:List FuncId} {fuel n:Nat} {g:FuncId} {args orc:List Value} {pos k:Nat} {cs:List Value} {A:Prop} (hA:A) (h:evRunO P ext fuel n g args orc pos=some (cs,k,A)):AO P g args cs.toArray pos k:=by
 unfold evRunO at h
 split at h
 ·next xs H ob hev =>
  split at h
  ·next i m m' hp =>
   split at h
   ·next b hb =>
    split at h
    ·next al is ps hl =>
     split at h
     ·next hc =>
      cases h
      simp only [Bool.and_eq_true,Bool.not_eq_true'] at hc
      obtain ⟨⟨his,hni⟩,hba⟩:=hc
      obtain ⟨hb1,⟨hmn,hme⟩,hb2⟩:=conj_append.1 hA
      subst hmn
      intro O W vs hlow hat
      have hH:HConc nowhere O [] W:=⟨hlow,fun _ _=>rfl,fun i=>by simp [look,HAt],fun i j b b' g k k' h1=>by simp [look] at h1⟩
      refine (evFn_ok hm n _ _ _ _ _ _ _ _ hev hb1 nowhere O W vs hH hat).mono ?_
      rintro e W' ⟨c,ρ',O',rfl,hr,hH',hE⟩
      obtain ⟨us,rfl,hau⟩:=rp_agg.1 hr
      have hpl:pos<xs.toList.length:=(List.getElem?_eq_some_iff.1 hp).1
      obtain ⟨u,hu,hru⟩:=hau.2 pos _ (by simpa using hp)
      obtain ⟨g0,k0,cap,h1,⟨⟨h2,h2'⟩,h3⟩,rfl⟩:=rp_own.1 hru
      have h1' : ρ' i=some (g0,k0):=h1
      have hhp:=hH'.hp i
      rw [hb] at hhp
      obtain ⟨g1,h4,hO',hB⟩:=hhp
      rw [h1'] at h4;cases h4
      simp only [Nat.zero_mul,Nat.zero_add] at h3 hu
      have fresh:∀ j p,ρ' j=some p→W.heap.size≤p.1:=fun j p hj=>by
       rcases hE.new j _ hj with h5 | ⟨-,h5 | ⟨m,bm,km,h5,-⟩⟩
       ·cases h5
       ·exact h5
       ·simp [look] at h5
      have hkeep:∀ g,O g→O' g:=fun g hg=>hE.keepO g hg fun i b hb=>by simp [look] at hb
      have hstU:Still (Unlent ρ' O' is) W' (fun g=>O g∨g=g0) W' := by
       refine ⟨Nat.le_refl _,fun g hg hn=>⟨fun h6=>hn ?_,rfl⟩,Shp.of_same fun _ _=>rfl⟩
       rcases h6 with h6 | rfl
       ·refine ⟨hkeep g h6,fun j _ q hq=>?_⟩
        have:=hlow g h6
        have:=fresh j _ hq
        simp at this;omega
       ·refine ⟨hO',fun j hj q hq=>?_⟩
        obtain ⟨bj,hbj⟩:=Option.isSome_iff_exists.1 (List.all_eq_true.1 his j hj)
        have:=hH'.inj j i bj b g q _ hbj hb hq h1'
        subst this
        have h7:(is.any fun y=>y==j)=true:=List.any_eq_true.2 ⟨j,hj,by simp⟩
        rw [hni] at h7;cases h7
      have hset:AtAll (Rp ρ' O' W') (xs.toList.set pos (.slice none 0 0)).toArray (us.toList.set pos (.slice none 0 0)).toArray:=by
       refine ⟨by simpa using hau.1,fun j x hx=>?_⟩
       simp only [List.getElem?_toArray,List.getElem?_set] at hx ⊢
       have hsz:us.toList.length=xs.toList.length:=by simpa using hau.1
       split at hx
       ·next e =>
        subst e
        rw [if_pos rfl,hsz,if_pos hpl]
        cases hx
        exact ⟨_,rfl,rp_nils.2 ⟨rfl,rfl,rfl⟩⟩
       ·next e =>
        rw [if_neg e]
        obtain ⟨y,hy,hr'⟩:=hau.2 j x (by simpa using hx)
        exact ⟨y,by simpa using hy,hr'⟩
      have h5:=lendL_ok (H:=look H) (fun v v' c is ob=>lendA_ok) hl hb2 hset (fun j _=>hH'.hp j)
      have hlen:al.length=us.toList.length:=by have:=h5.1;simpa using this.symm
      refine ⟨us,g0,b.n,b.els,cap,rfl,by simpa using hlen.symm,⟨hE.str.2.1,hE.str.1,hE.str.2.2,hE.still.size,fun g hg=>hE.blk g hg fun i b hb=>by simp [look] at hb⟩,by have:=fresh i _ h1';simpa using this,?_,h2,⟨h2',h3⟩,by simpa using hu,?_,fun j x hj hx=>?_⟩
      ·have hlt:pos<al.length:=by rw [hlen];have:us.toList.length=xs.toList.length:=(by simpa using hau.1);omega
       simp [List.getElem?_set,hlt,vRow]
      ·have hpm:∀ r:PMap,b.pm r=nowhere:=fun r=>by unfold Blk.pm;rw [hba]
       obtain ⟨arr,ty,h6,h7,h8⟩:=(blk_cells (arr_noMap hba)).1 hB
       rw [hpm] at h8
       refine (blk_cells (arr_noMap rfl)).2 ⟨arr,ty,h6,by simpa using h7,fun q el hq=>?_⟩
       obtain ⟨h9,h10⟩:=h8 q el (by simpa using hq)
       refine ⟨h9,fun j x hx=>?_⟩
       obtain ⟨y,hy,hr'⟩:=h10 j x hx
       refine ⟨y,hy,hr'.mono ⟨Nat.le_refl _,fun g hg hn=>⟨fun h11=>hn ?_,rfl⟩,Shp.of_same fun _ _=>rfl⟩ (Sub.refl _)⟩
       rcases h11 with h11 | rfl
       ·exact hkeep g h11
       ·exact hO'
      ·rw [List.getElem?_toArray,List.getElem?_set,if_neg (Ne.symm hj)] at hx
       obtain ⟨y,hy,hr'⟩:=h5.2 j x (by simpa using hx)
       rw [List.getElem?_toArray,List.getElem?_set,if_neg (Ne.symm hj)] at hy
       exact ⟨y,by simpa using hy,hr'.mono hstU (Sub.refl _)⟩
     ·cases h
    ·cases h
   ·cases h
  ·cases h
 ·cases h
end
end
section
open Go.RowKit
theorem mixed:Tryz.prog.follows .mixedOrders=true:=by kernel_rfl
theorem rowT_el {l:List Th} {n:Nat} (h:n<l.length):IxP ((l.map thT).toArray) (n:Int) (thT (gth l n)):=⟨by omega,by simp [gth_eq h,h]⟩
theorem allK_map {α:Type} {f:α→Value} {k:Nat} (h:∀ x,(f x).cells.size=k∧(f x).cells.toList.all leafB=true) (l:List α):AllK k (l.map f):=fun el hel=>by
 obtain ⟨x,-,rfl⟩:=List.mem_map.1 hel
 exact h x
theorem allK_I (l:List Int):AllK 1 (l.map (.int .i64 ·)):=allK_map (f:=(Value.int .i64 ·)) (fun _=>⟨rfl,rfl⟩) l
theorem allK_S (l:List Slo):AllK 2 (l.map slT):=allK_map (f:=slT) (fun _=>⟨rfl,rfl⟩) l
theorem allK_T (l:List Th):AllK 11 (l.map thT):=allK_map (f:=thT) (fun _=>⟨rfl,rfl⟩) l
theorem allK_E (l:List En):AllK 5 (l.map enT):=allK_map (f:=enT) (fun _=>⟨rfl,rfl⟩) l
theorem app_nil {α:Type} {f:α→Value} {l:List α} (h:l≠[]) (hm:l.length≤1000000):0<l.length∧AppP l.length (l.map f) 0 [] l.length (l.map f) :=
 ⟨List.length_pos_iff.2 h,by simp,by simp,by omega⟩
theorem len_map {α:Type} {f:α→Value} (l:List α):LenP l.length l.length (l.map f):=⟨by simp,by simp⟩
theorem idT {n:Nat} {l:List Th} (h:n<l.length):0≤(n:Int)∧(n:Int).toNat<l.length:=⟨by omega,by simpa using h⟩
theorem elT {n:Nat} {l:List Th} (h:n<l.length):ElP (l.map thT) (0+(n:Int).toNat) (thT (gth l n)):=by simp [ElP,gth_eq h,h]
theorem setT (l:List Th) (n:Nat) (t:Th):(l.set n t).map thT=(l.map thT).set (0+(n:Int).toNat) (thT t):=by simp [List.map_set]
theorem app_e {α:Type} {f:α→Value} {l:List α} (hm:l.length≤1048576):AppP l.length (l.map f) 0 [] l.length (l.map f):=⟨by simp,by simp,by omega⟩
theorem ac_rwith (s:St) (n:Nat) (t:Th) (hn:n<s.th.length) (hm:s.th.length≤1000):AC Tryz.prog 56 [stT s,.int .i64 n,thT t] (stT (s.setTh n t)) :=
 ac_path mixed (ext:=[]) (fuel:=9) (n:=4) (orc:=[rowT s.th,thT (gth s.th n),rowT (s.th.set n t)])
  (an (allK_T s.th)<|an (rfl:(0:Nat)=0)<|an (app_e (f:=thT) (l:=s.th) (by omega))<|an (idT hn)<|an (elT hn)<|an (setT s.th n t)<|an (show LenP s.th.length (s.th.set n t).length ((s.th.set n t).map thT) from ⟨by simp,by simp⟩) trivial) (by kernel_rfl)
theorem ac_rat (s:St) (n:Nat) (p:Int) (hn:n<s.th.length) (hm:s.th.length≤1000):AC Tryz.prog 88 [stT s,.int .i64 n,.int .i64 p] (stT (s.onTh n (pcT · p))) :=
 ac_path mixed (ext:=[56]) (fuel:=50) (n:=3) (orc:=[thT (gth s.th n),stT (s.onTh n (pcT · p))]) (And.intro (rowT_el hn) (And.intro (ac_rwith s n (pcT (gth s.th n) p) hn hm) trivial)) (by kernel_rfl)
theorem calls_of {g:FuncId} {args:List Value} {vs:Array Value} {W:World} {b:Bool} (h:AC Tryz.prog g args (.bool b)) (hv:AtAll (Rp nowhere (fun _=>False) W) args.toArray vs):Calls Tryz.prog g vs W fun e W' => e = .returned (.bool b)∧Kept W W' := by
 refine (h (fun _=>False) W vs (fun g hg=>hg.elim) hv).mono ?_
 rintro e W' ⟨c,rfl,hr,hk⟩
 rw [rp_bool] at hr
 exact ⟨by rw [hr],hk⟩
theorem st_free {W:World} {s:St} {z:Pz} (h:StAt W s z):Rp nowhere (fun _=>False) W (stT s) (.agg #[.int .i64 s.cf.lg,.int .i64 s.cf.th,.int .i64 s.cf.po,.int .i64 s.cf.wt,.int .i64 s.cf.sp,.int .i64 s.cf.yi,.bool s.cf.si,.int .i64 s.hd,.int .i64 s.tl,.int .i64 s.md,.slice z.p1 s.sl.length z.k1,.slice z.p2 s.sn.length z.k2,.slice z.p3 s.rc.length z.k3,.int .i64 s.fe,.slice z.p4 s.fl.length z.k4,.int .i64 s.ee,.slice z.p5 s.el.length z.k5,.int .i64 s.nw,.slice z.p6 s.th.length z.k6,.slice z.p7 s.lg.length z.k7]):=rp_stT.2 ⟨z,rfl,h.loc.mono fun _ _ h=>h⟩
end
section
open Go.ChangeShapes Go.WideShapes Go.ChangeAt Go.RowKit Go.Shelf
attribute [local go_sem] Oper.semAt_some
theorem within_any (n low high:Int) (w:World) :
  Calls Tryz.prog 61 #[.agg #[.int .i64 n,.int .i64 low,.int .i64 high]] w fun e w' => e = .returned (.bool (inB n low high))∧Kept w w' := by
 go_enter Tryz.func61,Tryz.ntmps61
 go_wp2
 all_goals (go_ret;exact ⟨ret_bool (by first | (rw [Bool.eq_iff_iff];simp [inB];omega) | (simp [inB, *];done) | (simp [inB, *];omega) | (simp [inB, *];intros;omega)),by repeat' (first | (with_reducible exact Below.refl _ _) | (with_reducible assumption) | (with_reducible refine kept_alloc ?_ _) | (with_reducible refine kept_drewN ?_ _) | (with_reducible refine Below.drew ?_) | (with_reducible refine Below.setCell ?_ (by first | omega | (simp;omega) | (simp;done)) _) | (refine kept_trans ?_ (by with_reducible assumption)))⟩)
set_option maxHeartbeats 4000000 in
theorem bounds_iter (lg th po wt sp yi:Int) (si:Bool) (n₀:Nat) (w:World) :
  Iter Tryz.prog 60 #[.agg #[.int .i64 lg,.int .i64 th,.int .i64 po,.int .i64 wt,.int .i64 sp,.int .i64 yi,.bool si]] #[] Bd.val n₀ (bdsL lg th po wt sp yi) w:=by
 intro l J Jx W hW hJ hJx hY h0
 refine (callsIn_wide (n:=10)).1 ?_
 refine callsIn_of_wp Tryz.func60 rfl trivial ?_
 simp only [Tryz.ntmps60,List.size_toArray,List.length_cons,List.length_nil,Nat.reduceAdd,Nat.reduceSub,Array.replicate_succ,Array.replicate_zero,List.push_toArray,List.append_toArray,List.nil_append,List.cons_append]
 by_cases hwt:wt=2
 ·subst hwt
  (have hL:Hid (bdsL lg th po 2 sp yi=[⟨lg,1,6⟩,⟨th,1,16⟩,⟨po,0,2⟩,⟨2,0,3⟩,⟨sp,0,8⟩,⟨yi,0,8⟩]):=Lib.hid (by simp [bdsL,triesI,triesI]);have x0:∀ w:World,(Instr.index 135 (.agg #[.int .i64 lg,.int .i64 1,.int .i64 6,.int .i64 th,.int .i64 1,.int .i64 16,.int .i64 po,.int .i64 0,.int .i64 2,.int .i64 2,.int .i64 0,.int .i64 3,.int .i64 sp,.int .i64 0,.int .i64 8,.int .i64 yi,.int .i64 0,.int .i64 8]) (.int .i64 0)).run Tryz.prog w = .ok (.agg #[.int .i64 lg,.int .i64 1,.int .i64 6]) w:=fun _=>(by kernel_rfl);have x1:∀ w:World,(Instr.index 135 (.agg #[.int .i64 lg,.int .i64 1,.int .i64 6,.int .i64 th,.int .i64 1,.int .i64 16,.int .i64 po,.int .i64 0,.int .i64 2,.int .i64 2,.int .i64 0,.int .i64 3,.int .i64 sp,.int .i64 0,.int .i64 8,.int .i64 yi,.int .i64 0,.int .i64 8]) (.int .i64 1)).run Tryz.prog w = .ok (.agg #[.int .i64 th,.int .i64 1,.int .i64 16]) w:=fun _=>(by kernel_rfl);have x2:∀ w:World,(Instr.index 135 (.agg #[.int .i64 lg,.int .i64 1,.int .i64 6,.int .i64 th,.int .i64 1,.int .i64 16,.int .i64 po,.int .i64 0,.int .i64 2,.int .i64 2,.int .i64 0,.int .i64 3,.int .i64 sp,.int .i64 0,.int .i64 8,.int .i64 yi,.int .i64 0,.int .i64 8]) (.int .i64 2)).run Tryz.prog w = .ok (.agg #[.int .i64 po,.int .i64 0,.int .i64 2]) w:=fun _=>(by kernel_rfl);have x3:∀ w:World,(Instr.index 135 (.agg #[.int .i64 lg,.int .i64 1,.int .i64 6,.int .i64 th,.int .i64 1,.int .i64 16,.int .i64 po,.int .i64 0,.int .i64 2,.int .i64 2,.int .i64 0,.int .i64 3,.int .i64 sp,.int .i64 0,.int .i64 8,.int .i64 yi,.int .i64 0,.int .i64 8]) (.int .i64 3)).run Tryz.prog w = .ok (.agg #[.int .i64 2,.int .i64 0,.int .i64 3]) w:=fun _=>(by kernel_rfl);have x4:∀ w:World,(Instr.index 135 (.agg #[.int .i64 lg,.int .i64 1,.int .i64 6,.int .i64 th,.int .i64 1,.int .i64 16,.int .i64 po,.int .i64 0,.int .i64 2,.int .i64 2,.int .i64 0,.int .i64 3,.int .i64 sp,.int .i64 0,.int .i64 8,.int .i64 yi,.int .i64 0,.int .i64 8]) (.int .i64 4)).run Tryz.prog w = .ok (.agg #[.int .i64 sp,.int .i64 0,.int .i64 8]) w:=fun _=>(by kernel_rfl);have x5:∀ w:World,(Instr.index 135 (.agg #[.int .i64 lg,.int .i64 1,.int .i64 6,.int .i64 th,.int .i64 1,.int .i64 16,.int .i64 po,.int .i64 0,.int .i64 2,.int .i64 2,.int .i64 0,.int .i64 3,.int .i64 sp,.int .i64 0,.int .i64 8,.int .i64 yi,.int .i64 0,.int .i64 8]) (.int .i64 5)).run Tryz.prog w = .ok (.agg #[.int .i64 yi,.int .i64 0,.int .i64 8]) w:=fun _=>(by kernel_rfl);gi_wp2;gi_loopw [31] (fun i wr=>∃ k:Nat,k≤6∧i = .int .i64 k∧J ((bdsL lg th po 2 sp yi).take k) wr) (fun i _=>6 - (intOf i).toNat);(case atStart=>exact ⟨0,by omega,rfl,hJ _ _ _ h0 ((Below.refl _ _).alloc (Nat.le_refl _) _)⟩);(case round=>obtain ⟨k,hk,rfl,hj⟩:=hrel;rw [hL.out] at hj;obtain rfl | rfl | rfl | rfl | rfl | rfl | rfl:k=0∨k=1∨k=2∨k=3∨k=4∨k=5∨k=6:=(by omega);((obtain ⟨fn,tmps,assign,body,hy,hR⟩:=hY (10 - 1) [] ⟨lg,1,6⟩ [⟨th,1,16⟩,⟨po,0,2⟩,⟨2,0,3⟩,⟨sp,0,8⟩,⟨yi,0,8⟩] (wr.alloc (.cells #[.int .i64 (⟨lg,1,6⟩:Bd).n,.int .i64 (⟨lg,1,6⟩:Bd).low,.int .i64 (⟨lg,1,6⟩:Bd).high] 96)) (by omega) hL.out (hJ _ _ _ hj ((Below.refl _ _).alloc (Nat.le_refl _) _));simp only [Bd.val] at hy;gi_wp2;refine hR.mono ?_;rintro e C (⟨rfl,hj',hr⟩ | ⟨rfl,hx⟩);(gi_wp2;go_roundw;(case rel=>exact ⟨1,by omega,rfl,by rw [hL.out];exact hj'⟩);(case measure=>simp [intOf]));(gi_wp2;refine bodyPost_ret (results_none rfl _ _ _) rfl ?_;exact ⟨⟨_,rfl⟩,.inr ⟨_,hx⟩⟩)));((obtain ⟨fn,tmps,assign,body,hy,hR⟩:=hY (10 - 1) [⟨lg,1,6⟩] ⟨th,1,16⟩ [⟨po,0,2⟩,⟨2,0,3⟩,⟨sp,0,8⟩,⟨yi,0,8⟩] (wr.alloc (.cells #[.int .i64 (⟨th,1,16⟩:Bd).n,.int .i64 (⟨th,1,16⟩:Bd).low,.int .i64 (⟨th,1,16⟩:Bd).high] 96)) (by omega) hL.out (hJ _ _ _ hj ((Below.refl _ _).alloc (Nat.le_refl _) _));simp only [Bd.val] at hy;gi_wp2;refine hR.mono ?_;rintro e C (⟨rfl,hj',hr⟩ | ⟨rfl,hx⟩);(gi_wp2;go_roundw;(case rel=>exact ⟨2,by omega,rfl,by rw [hL.out];exact hj'⟩);(case measure=>simp [intOf]));(gi_wp2;refine bodyPost_ret (results_none rfl _ _ _) rfl ?_;exact ⟨⟨_,rfl⟩,.inr ⟨_,hx⟩⟩)));((obtain ⟨fn,tmps,assign,body,hy,hR⟩:=hY (10 - 1) [⟨lg,1,6⟩,⟨th,1,16⟩] ⟨po,0,2⟩ [⟨2,0,3⟩,⟨sp,0,8⟩,⟨yi,0,8⟩] (wr.alloc (.cells #[.int .i64 (⟨po,0,2⟩:Bd).n,.int .i64 (⟨po,0,2⟩:Bd).low,.int .i64 (⟨po,0,2⟩:Bd).high] 96)) (by omega) hL.out (hJ _ _ _ hj ((Below.refl _ _).alloc (Nat.le_refl _) _));simp only [Bd.val] at hy;gi_wp2;refine hR.mono ?_;rintro e C (⟨rfl,hj',hr⟩ | ⟨rfl,hx⟩);(gi_wp2;go_roundw;(case rel=>exact ⟨3,by omega,rfl,by rw [hL.out];exact hj'⟩);(case measure=>simp [intOf]));(gi_wp2;refine bodyPost_ret (results_none rfl _ _ _) rfl ?_;exact ⟨⟨_,rfl⟩,.inr ⟨_,hx⟩⟩)));((obtain ⟨fn,tmps,assign,body,hy,hR⟩:=hY (10 - 1) [⟨lg,1,6⟩,⟨th,1,16⟩,⟨po,0,2⟩] ⟨2,0,3⟩ [⟨sp,0,8⟩,⟨yi,0,8⟩] (wr.alloc (.cells #[.int .i64 (⟨2,0,3⟩:Bd).n,.int .i64 (⟨2,0,3⟩:Bd).low,.int .i64 (⟨2,0,3⟩:Bd).high] 96)) (by omega) hL.out (hJ _ _ _ hj ((Below.refl _ _).alloc (Nat.le_refl _) _));simp only [Bd.val] at hy;gi_wp2;refine hR.mono ?_;rintro e C (⟨rfl,hj',hr⟩ | ⟨rfl,hx⟩);(gi_wp2;go_roundw;(case rel=>exact ⟨4,by omega,rfl,by rw [hL.out];exact hj'⟩);(case measure=>simp [intOf]));(gi_wp2;refine bodyPost_ret (results_none rfl _ _ _) rfl ?_;exact ⟨⟨_,rfl⟩,.inr ⟨_,hx⟩⟩)));((obtain ⟨fn,tmps,assign,body,hy,hR⟩:=hY (10 - 1) [⟨lg,1,6⟩,⟨th,1,16⟩,⟨po,0,2⟩,⟨2,0,3⟩] ⟨sp,0,8⟩ [⟨yi,0,8⟩] (wr.alloc (.cells #[.int .i64 (⟨sp,0,8⟩:Bd).n,.int .i64 (⟨sp,0,8⟩:Bd).low,.int .i64 (⟨sp,0,8⟩:Bd).high] 96)) (by omega) hL.out (hJ _ _ _ hj ((Below.refl _ _).alloc (Nat.le_refl _) _));simp only [Bd.val] at hy;gi_wp2;refine hR.mono ?_;rintro e C (⟨rfl,hj',hr⟩ | ⟨rfl,hx⟩);(gi_wp2;go_roundw;(case rel=>exact ⟨5,by omega,rfl,by rw [hL.out];exact hj'⟩);(case measure=>simp [intOf]));(gi_wp2;refine bodyPost_ret (results_none rfl _ _ _) rfl ?_;exact ⟨⟨_,rfl⟩,.inr ⟨_,hx⟩⟩)));((obtain ⟨fn,tmps,assign,body,hy,hR⟩:=hY (10 - 1) [⟨lg,1,6⟩,⟨th,1,16⟩,⟨po,0,2⟩,⟨2,0,3⟩,⟨sp,0,8⟩] ⟨yi,0,8⟩ [] (wr.alloc (.cells #[.int .i64 (⟨yi,0,8⟩:Bd).n,.int .i64 (⟨yi,0,8⟩:Bd).low,.int .i64 (⟨yi,0,8⟩:Bd).high] 96)) (by omega) hL.out (hJ _ _ _ hj ((Below.refl _ _).alloc (Nat.le_refl _) _));simp only [Bd.val] at hy;gi_wp2;refine hR.mono ?_;rintro e C (⟨rfl,hj',hr⟩ | ⟨rfl,hx⟩);(gi_wp2;go_roundw;(case rel=>exact ⟨6,by omega,rfl,by rw [hL.out];exact hj'⟩);(case measure=>simp [intOf]));(gi_wp2;refine bodyPost_ret (results_none rfl _ _ _) rfl ?_;exact ⟨⟨_,rfl⟩,.inr ⟨_,hx⟩⟩)));(gi_wp2;go_end0;exact ⟨⟨_,rfl⟩,.inl (by rw [hL.out];exact hj)⟩)))
 ·have hwb:(wt==2)=false:=by simpa using hwt
  (have hL:Hid (bdsL lg th po wt sp yi=[⟨lg,1,6⟩,⟨th,1,16⟩,⟨po,0,2⟩,⟨wt,0,3⟩,⟨sp,0,0⟩,⟨yi,0,0⟩]):=Lib.hid (by simp [bdsL,triesI,hwt]);have x0:∀ w:World,(Instr.index 135 (.agg #[.int .i64 lg,.int .i64 1,.int .i64 6,.int .i64 th,.int .i64 1,.int .i64 16,.int .i64 po,.int .i64 0,.int .i64 2,.int .i64 wt,.int .i64 0,.int .i64 3,.int .i64 sp,.int .i64 0,.int .i64 0,.int .i64 yi,.int .i64 0,.int .i64 0]) (.int .i64 0)).run Tryz.prog w = .ok (.agg #[.int .i64 lg,.int .i64 1,.int .i64 6]) w:=fun _=>(by kernel_rfl);have x1:∀ w:World,(Instr.index 135 (.agg #[.int .i64 lg,.int .i64 1,.int .i64 6,.int .i64 th,.int .i64 1,.int .i64 16,.int .i64 po,.int .i64 0,.int .i64 2,.int .i64 wt,.int .i64 0,.int .i64 3,.int .i64 sp,.int .i64 0,.int .i64 0,.int .i64 yi,.int .i64 0,.int .i64 0]) (.int .i64 1)).run Tryz.prog w = .ok (.agg #[.int .i64 th,.int .i64 1,.int .i64 16]) w:=fun _=>(by kernel_rfl);have x2:∀ w:World,(Instr.index 135 (.agg #[.int .i64 lg,.int .i64 1,.int .i64 6,.int .i64 th,.int .i64 1,.int .i64 16,.int .i64 po,.int .i64 0,.int .i64 2,.int .i64 wt,.int .i64 0,.int .i64 3,.int .i64 sp,.int .i64 0,.int .i64 0,.int .i64 yi,.int .i64 0,.int .i64 0]) (.int .i64 2)).run Tryz.prog w = .ok (.agg #[.int .i64 po,.int .i64 0,.int .i64 2]) w:=fun _=>(by kernel_rfl);have x3:∀ w:World,(Instr.index 135 (.agg #[.int .i64 lg,.int .i64 1,.int .i64 6,.int .i64 th,.int .i64 1,.int .i64 16,.int .i64 po,.int .i64 0,.int .i64 2,.int .i64 wt,.int .i64 0,.int .i64 3,.int .i64 sp,.int .i64 0,.int .i64 0,.int .i64 yi,.int .i64 0,.int .i64 0]) (.int .i64 3)).run Tryz.prog w = .ok (.agg #[.int .i64 wt,.int .i64 0,.int .i64 3]) w:=fun _=>(by kernel_rfl);have x4:∀ w:World,(Instr.index 135 (.agg #[.int .i64 lg,.int .i64 1,.int .i64 6,.int .i64 th,.int .i64 1,.int .i64 16,.int .i64 po,.int .i64 0,.int .i64 2,.int .i64 wt,.int .i64 0,.int .i64 3,.int .i64 sp,.int .i64 0,.int .i64 0,.int .i64 yi,.int .i64 0,.int .i64 0]) (.int .i64 4)).run Tryz.prog w = .ok (.agg #[.int .i64 sp,.int .i64 0,.int .i64 0]) w:=fun _=>(by kernel_rfl);have x5:∀ w:World,(Instr.index 135 (.agg #[.int .i64 lg,.int .i64 1,.int .i64 6,.int .i64 th,.int .i64 1,.int .i64 16,.int .i64 po,.int .i64 0,.int .i64 2,.int .i64 wt,.int .i64 0,.int .i64 3,.int .i64 sp,.int .i64 0,.int .i64 0,.int .i64 yi,.int .i64 0,.int .i64 0]) (.int .i64 5)).run Tryz.prog w = .ok (.agg #[.int .i64 yi,.int .i64 0,.int .i64 0]) w:=fun _=>(by kernel_rfl);gi_wp2;gi_loopw [31] (fun i wr=>∃ k:Nat,k≤6∧i = .int .i64 k∧J ((bdsL lg th po wt sp yi).take k) wr) (fun i _=>6 - (intOf i).toNat);(case atStart=>exact ⟨0,by omega,rfl,hJ _ _ _ h0 ((Below.refl _ _).alloc (Nat.le_refl _) _)⟩);(case round=>obtain ⟨k,hk,rfl,hj⟩:=hrel;rw [hL.out] at hj;obtain rfl | rfl | rfl | rfl | rfl | rfl | rfl:k=0∨k=1∨k=2∨k=3∨k=4∨k=5∨k=6:=(by omega);((obtain ⟨fn,tmps,assign,body,hy,hR⟩:=hY (10 - 1) [] ⟨lg,1,6⟩ [⟨th,1,16⟩,⟨po,0,2⟩,⟨wt,0,3⟩,⟨sp,0,0⟩,⟨yi,0,0⟩] (wr.alloc (.cells #[.int .i64 (⟨lg,1,6⟩:Bd).n,.int .i64 (⟨lg,1,6⟩:Bd).low,.int .i64 (⟨lg,1,6⟩:Bd).high] 96)) (by omega) hL.out (hJ _ _ _ hj ((Below.refl _ _).alloc (Nat.le_refl _) _));simp only [Bd.val] at hy;gi_wp2;refine hR.mono ?_;rintro e C (⟨rfl,hj',hr⟩ | ⟨rfl,hx⟩);(gi_wp2;go_roundw;(case rel=>exact ⟨1,by omega,rfl,by rw [hL.out];exact hj'⟩);(case measure=>simp [intOf]));(gi_wp2;refine bodyPost_ret (results_none rfl _ _ _) rfl ?_;exact ⟨⟨_,rfl⟩,.inr ⟨_,hx⟩⟩)));((obtain ⟨fn,tmps,assign,body,hy,hR⟩:=hY (10 - 1) [⟨lg,1,6⟩] ⟨th,1,16⟩ [⟨po,0,2⟩,⟨wt,0,3⟩,⟨sp,0,0⟩,⟨yi,0,0⟩] (wr.alloc (.cells #[.int .i64 (⟨th,1,16⟩:Bd).n,.int .i64 (⟨th,1,16⟩:Bd).low,.int .i64 (⟨th,1,16⟩:Bd).high] 96)) (by omega) hL.out (hJ _ _ _ hj ((Below.refl _ _).alloc (Nat.le_refl _) _));simp only [Bd.val] at hy;gi_wp2;refine hR.mono ?_;rintro e C (⟨rfl,hj',hr⟩ | ⟨rfl,hx⟩);(gi_wp2;go_roundw;(case rel=>exact ⟨2,by omega,rfl,by rw [hL.out];exact hj'⟩);(case measure=>simp [intOf]));(gi_wp2;refine bodyPost_ret (results_none rfl _ _ _) rfl ?_;exact ⟨⟨_,rfl⟩,.inr ⟨_,hx⟩⟩)));((obtain ⟨fn,tmps,assign,body,hy,hR⟩:=hY (10 - 1) [⟨lg,1,6⟩,⟨th,1,16⟩] ⟨po,0,2⟩ [⟨wt,0,3⟩,⟨sp,0,0⟩,⟨yi,0,0⟩] (wr.alloc (.cells #[.int .i64 (⟨po,0,2⟩:Bd).n,.int .i64 (⟨po,0,2⟩:Bd).low,.int .i64 (⟨po,0,2⟩:Bd).high] 96)) (by omega) hL.out (hJ _ _ _ hj ((Below.refl _ _).alloc (Nat.le_refl _) _));simp only [Bd.val] at hy;gi_wp2;refine hR.mono ?_;rintro e C (⟨rfl,hj',hr⟩ | ⟨rfl,hx⟩);(gi_wp2;go_roundw;(case rel=>exact ⟨3,by omega,rfl,by rw [hL.out];exact hj'⟩);(case measure=>simp [intOf]));(gi_wp2;refine bodyPost_ret (results_none rfl _ _ _) rfl ?_;exact ⟨⟨_,rfl⟩,.inr ⟨_,hx⟩⟩)));((obtain ⟨fn,tmps,assign,body,hy,hR⟩:=hY (10 - 1) [⟨lg,1,6⟩,⟨th,1,16⟩,⟨po,0,2⟩] ⟨wt,0,3⟩ [⟨sp,0,0⟩,⟨yi,0,0⟩] (wr.alloc (.cells #[.int .i64 (⟨wt,0,3⟩:Bd).n,.int .i64 (⟨wt,0,3⟩:Bd).low,.int .i64 (⟨wt,0,3⟩:Bd).high] 96)) (by omega) hL.out (hJ _ _ _ hj ((Below.refl _ _).alloc (Nat.le_refl _) _));simp only [Bd.val] at hy;gi_wp2;refine hR.mono ?_;rintro e C (⟨rfl,hj',hr⟩ | ⟨rfl,hx⟩);(gi_wp2;go_roundw;(case rel=>exact ⟨4,by omega,rfl,by rw [hL.out];exact hj'⟩);(case measure=>simp [intOf]));(gi_wp2;refine bodyPost_ret (results_none rfl _ _ _) rfl ?_;exact ⟨⟨_,rfl⟩,.inr ⟨_,hx⟩⟩)));((obtain ⟨fn,tmps,assign,body,hy,hR⟩:=hY (10 - 1) [⟨lg,1,6⟩,⟨th,1,16⟩,⟨po,0,2⟩,⟨wt,0,3⟩] ⟨sp,0,0⟩ [⟨yi,0,0⟩] (wr.alloc (.cells #[.int .i64 (⟨sp,0,0⟩:Bd).n,.int .i64 (⟨sp,0,0⟩:Bd).low,.int .i64 (⟨sp,0,0⟩:Bd).high] 96)) (by omega) hL.out (hJ _ _ _ hj ((Below.refl _ _).alloc (Nat.le_refl _) _));simp only [Bd.val] at hy;gi_wp2;refine hR.mono ?_;rintro e C (⟨rfl,hj',hr⟩ | ⟨rfl,hx⟩);(gi_wp2;go_roundw;(case rel=>exact ⟨5,by omega,rfl,by rw [hL.out];exact hj'⟩);(case measure=>simp [intOf]));(gi_wp2;refine bodyPost_ret (results_none rfl _ _ _) rfl ?_;exact ⟨⟨_,rfl⟩,.inr ⟨_,hx⟩⟩)));((obtain ⟨fn,tmps,assign,body,hy,hR⟩:=hY (10 - 1) [⟨lg,1,6⟩,⟨th,1,16⟩,⟨po,0,2⟩,⟨wt,0,3⟩,⟨sp,0,0⟩] ⟨yi,0,0⟩ [] (wr.alloc (.cells #[.int .i64 (⟨yi,0,0⟩:Bd).n,.int .i64 (⟨yi,0,0⟩:Bd).low,.int .i64 (⟨yi,0,0⟩:Bd).high] 96)) (by omega) hL.out (hJ _ _ _ hj ((Below.refl _ _).alloc (Nat.le_refl _) _));simp only [Bd.val] at hy;gi_wp2;refine hR.mono ?_;rintro e C (⟨rfl,hj',hr⟩ | ⟨rfl,hx⟩);(gi_wp2;go_roundw;(case rel=>exact ⟨6,by omega,rfl,by rw [hL.out];exact hj'⟩);(case measure=>simp [intOf]));(gi_wp2;refine bodyPost_ret (results_none rfl _ _ _) rfl ?_;exact ⟨⟨_,rfl⟩,.inr ⟨_,hx⟩⟩)));(gi_wp2;go_end0;exact ⟨⟨_,rfl⟩,.inl (by rw [hL.out];exact hj)⟩)))
end
section
open Go.ChangeShapes Go.WideShapes Go.ChangeAt Go.RowKit Go.Shelf
attribute [local go_sem] Oper.semAt_some
set_option maxHeartbeats 4000000 in
theorem ccheck_any (lg th po wt sp yi:Int) (si:Bool) (w:World) :
  Calls Tryz.prog 34 #[.agg #[.int .i64 lg,.int .i64 th,.int .i64 po,.int .i64 wt,.int .i64 sp,.int .i64 yi,.bool si]] w fun e w' => e = .returned (.int .i64 (ckI lg th po wt sp yi))∧Kept w w' := by
 refine (callsIn_wide (n:=20)).1 ?_
 refine callsIn_of_wp_marks Tryz.func34 rfl trivial ?_
 simp only [Tryz.ntmps34,List.size_toArray,List.length_cons,List.length_nil,Nat.reduceAdd,Nat.reduceSub,Array.replicate_succ,Array.replicate_zero,List.push_toArray,List.append_toArray,List.nil_append,List.cons_append]
 gi_wp2
 have hc0:((w.alloc (.cells #[.int .i64 lg,.int .i64 th,.int .i64 po,.int .i64 wt,.int .i64 sp,.int .i64 yi,.bool si] 23)).alloc (.cells #[.int .i64 0] 38)).cell? ⟨w.heap.size+1,0,none⟩=some (.int .i64 0):=by simp
 have hf0:((w.alloc (.cells #[.int .i64 lg,.int .i64 th,.int .i64 po,.int .i64 wt,.int .i64 sp,.int .i64 yi,.bool si] 23)).alloc (.cells #[.int .i64 0] 38)).frozen? ⟨w.heap.size+1,0,none⟩=false:=by simp
 have hB0:Below w.heap.size w ((w.alloc (.cells #[.int .i64 lg,.int .i64 th,.int .i64 po,.int .i64 wt,.int .i64 sp,.int .i64 yi,.bool si] 23)).alloc (.cells #[.int .i64 0] 38)):=((Below.refl _ _).alloc (Nat.le_refl _) _).alloc (by simp) _
 have hs0:((w.alloc (.cells #[.int .i64 lg,.int .i64 th,.int .i64 po,.int .i64 wt,.int .i64 sp,.int .i64 yi,.bool si] 23)).alloc (.cells #[.int .i64 0] 38)).heap.size=w.heap.size+2:=by simp
 revert hc0 hf0 hB0 hs0
 generalize ((w.alloc (.cells #[.int .i64 lg,.int .i64 th,.int .i64 po,.int .i64 wt,.int .i64 sp,.int .i64 yi,.bool si] 23)).alloc (.cells #[.int .i64 0] 38))=V
 intro hc0 hf0 hB0 hs0
 refine wpIn_over (gf:=60) (bd:=#[.agg #[.int .i64 lg,.int .i64 th,.int .i64 po,.int .i64 wt,.int .i64 sp,.int .i64 yi,.bool si]]) (lb:=#[]) rfl (enters_of Tryz.func60 (by kernel_rfl) rfl) (bounds_iter lg th po wt sp yi si w.heap.size V) (by omega) rfl
  (fun pre A=>A.cell? ⟨w.heap.size+1,0,none⟩=some (.int .i64 0)∧A.frozen? ⟨w.heap.size+1,0,none⟩=false∧Below w.heap.size w A∧okL pre=true)
  (fun c pre A=>c = .ret∧A.cell? ⟨w.heap.size+1,0,none⟩=some (.int .i64 20)∧Below w.heap.size w A∧mayB lg th po wt sp yi=false)
  (fun s A C hs ht=>⟨ht.cell hs.1,(ht.frozen hs.1).trans hs.2.1,ht.below (by omega) hs.2.2.1,hs.2.2.2⟩)
  (fun c s A C hs ht=>⟨hs.1,ht.cell hs.2.1,ht.below (by omega) hs.2.2.1,hs.2.2.2⟩)
  ⟨hc0,hf0,hB0,rfl⟩ ?round ?done ?stop
 case round =>
  rintro m l pre suf ⟨n,low,high⟩ A hm hxs hsz ⟨hc,hf,hB,hp⟩
  simp only [Bd.val]
  have hbl:(⟨w.heap.size+1,0,none⟩:Addr).block<A.heap.size:=by show w.heap.size+1<A.heap.size;omega
  gi_wp2
  refine ⟨(Below.refl _ _).alloc (Nat.le_refl _) _,fun C ht hsC=>?_⟩
  have h1m:1≤m:=by omega
  have hn0:C.cell? ⟨A.heap.size,0,none⟩=some (.int .i64 n):=ht.cell (by simp)
  have hn1:C.cell? ⟨A.heap.size,1,none⟩=some (.int .i64 low):=ht.cell (by simp)
  have hn2:C.cell? ⟨A.heap.size,2,none⟩=some (.int .i64 high):=ht.cell (by simp)
  have hA1:Below A.heap.size A (A.alloc (.cells #[.int .i64 n,.int .i64 low,.int .i64 high] 96)):=(Below.refl _ _).alloc (Nat.le_refl _) _
  have hcC:=ht.cell ((hA1.cell (p:=⟨w.heap.size+1,0,none⟩) hbl).trans hc)
  have hfC:=(ht.frozen ((hA1.cell (p:=⟨w.heap.size+1,0,none⟩) hbl).trans hc)).trans ((hA1.frozen (p:=⟨w.heap.size+1,0,none⟩) hbl).trans hf)
  have hBC:Below w.heap.size w C:=ht.below (by omega) (hB.trans (hA1.mono hB.size))
  clear ht hc hf hA1
  cases hx:inB n low high
  ·gi_wp2_with (refine ⟨trivial,?_⟩;gi_at_call 61;refine (CallsIn.inRound l (callsIn_wide.2 (within_any _ _ _ _))).mono ?_;rintro e D ⟨rfl,hD⟩;have hcD:=(hD.cell (p:=⟨w.heap.size+1,0,none⟩) (by show w.heap.size+1<C.heap.size;omega)).trans hcC;have hfD:=(hD.frozen (p:=⟨w.heap.size+1,0,none⟩) (by show w.heap.size+1<C.heap.size;omega)).trans hfC)
   refine ⟨(Rnd.of_below hD (by omega) (by omega)).setCell (by simp) (by simp) _,rfl,World.cell?_setCell_same' _ _ _ (by rw [hcD];rfl),(hBC.trans (hD.mono (by omega))).setCell (by simp) _,may_not hxs hx⟩
  ·gi_wp2_with (refine ⟨trivial,?_⟩;gi_at_call 61;refine (CallsIn.inRound l (callsIn_wide.2 (within_any _ _ _ _))).mono ?_;rintro e D ⟨rfl,hD⟩;have hcD:=(hD.cell (p:=⟨w.heap.size+1,0,none⟩) (by show w.heap.size+1<C.heap.size;omega)).trans hcC;have hfD:=(hD.frozen (p:=⟨w.heap.size+1,0,none⟩) (by show w.heap.size+1<C.heap.size;omega)).trans hfC)
   exact ⟨Rnd.of_below hD (by omega) (by omega),hcD,hfD,hBC.trans (hD.mono (by omega)),okL_snoc hp hx⟩
 case done =>
  rintro D W hD ⟨hc,hf,hB,hp⟩ hK
  gi_wp2
  have hK1:=(Below.heap_setCell W ⟨w.heap.size+1,0,none⟩ (.int .i64 0) D (by show D≠w.heap.size+1;omega)).trans hK
  have hT:Turn (w.heap.size+2) (W.setCell ⟨w.heap.size+1,0,none⟩ (.int .i64 0)) ((W.setCell ⟨w.heap.size+1,0,none⟩ (.int .i64 0)).putObj D (.deferred none)):=Turn.putObj hK1 rfl (by omega) _
  have hW:=hT.cell (p:=⟨w.heap.size+1,0,none⟩) (World.cell?_setCell_same' _ _ _ (by rw [hc];rfl))
  have hBW:=hT.below (by omega) (hB.setCell (p:=⟨w.heap.size+1,0,none⟩) (by simp) (.int .i64 0))
  refine ⟨by simp,.inl ⟨_,_,rfl,run_takeDeferred hK1,?_⟩⟩
  revert hW hBW
  generalize ((W.setCell ⟨w.heap.size+1,0,none⟩ (.int .i64 0)).putObj D (.deferred none))=X
  intro hW hBW
  exact ⟨.int .i64 0,by simp [results,Tryz.results34,go_sem,hW],ret_int (by rw [ckI,if_pos (show mayB lg th po wt sp yi=true from hp)]),hBW⟩
 case stop =>
  rintro D c pre W hD ⟨rfl,hc,hB,hm⟩ hK
  gi_wp2
  have hT:Turn (w.heap.size+2) W (W.putObj D (.deferred none)):=Turn.putObj hK rfl (by omega) _
  have hW:=hT.cell hc
  have hBW:=hT.below (by omega) hB
  refine ⟨by simp,.inl ⟨_,_,rfl,run_takeDeferred hK,?_⟩⟩
  revert hW hBW
  generalize (W.putObj D (.deferred none))=X
  intro hW hBW
  exact ⟨.int .i64 20,by simp [results,Tryz.results34,go_sem,hW],ret_int (by rw [ckI,hm];rfl),hBW⟩
end
section
open Go.ChangeShapes Go.WideShapes Go.ChangeAt Go.RowKit
theorem cmay_any (lg th po wt sp yi:Int) (si:Bool) (w:World):Calls Tryz.prog 71 #[.agg #[.int .i64 lg,.int .i64 th,.int .i64 po,.int .i64 wt,.int .i64 sp,.int .i64 yi,.bool si]] w fun e w' => e = .returned (.bool (mayB lg th po wt sp yi))∧Kept w w' := by
 cases hm:mayB lg th po wt sp yi
 ·have hk:=ck_no hm
  go_enter Tryz.func71,Tryz.ntmps71
  go_wp2_with (first | (go_at_call 34;refine (ccheck_any _ _ _ _ _ _ _ _).mono ?_;rintro e wx ⟨rfl,hgx⟩;obtain ⟨hcx,hfx⟩:=bcell hgx;have hz0:w.heap.size<wx.heap.size:=(by have:=hgx.size;(try simp at this);omega)))
  go_ret
  exact ⟨rfl,by repeat' (first | (with_reducible exact Below.refl _ _) | (with_reducible assumption) | (with_reducible refine kept_alloc ?_ _) | (with_reducible refine kept_drewN ?_ _) | (with_reducible refine Below.drew ?_) | (with_reducible refine Below.setCell ?_ (by first | omega | (simp;omega) | (simp;done)) _) | (refine kept_trans ?_ (by with_reducible assumption)))⟩
 ·have hk:=ck_yes hm
  go_enter Tryz.func71,Tryz.ntmps71
  go_wp2_with (first | (go_at_call 34;refine (ccheck_any _ _ _ _ _ _ _ _).mono ?_;rintro e wx ⟨rfl,hgx⟩;obtain ⟨hcx,hfx⟩:=bcell hgx;have hz0:w.heap.size<wx.heap.size:=(by have:=hgx.size;(try simp at this);omega)))
  go_ret
  exact ⟨rfl,by repeat' (first | (with_reducible exact Below.refl _ _) | (with_reducible assumption) | (with_reducible refine kept_alloc ?_ _) | (with_reducible refine kept_drewN ?_ _) | (with_reducible refine Below.drew ?_) | (with_reducible refine Below.setCell ?_ (by first | omega | (simp;omega) | (simp;done)) _) | (refine kept_trans ?_ (by with_reducible assumption)))⟩
theorem croom_any (lg th po wt sp yi:Int) (si:Bool) (w:World):Calls Tryz.prog 41 #[.agg #[.int .i64 lg,.int .i64 th,.int .i64 po,.int .i64 wt,.int .i64 sp,.int .i64 yi,.bool si]] w fun e w' => e = .returned (.int .i64 (roomI lg th po wt sp yi))∧Kept w w' := by
 cases hm:mayB lg th po wt sp yi
 ·have hk:=room_no hm
  go_enter Tryz.func41,Tryz.ntmps41
  go_wp2_with (first | (go_at_call 71;refine (cmay_any _ _ _ _ _ _ _ _).mono ?_;rintro e wx ⟨rfl,hgx⟩;obtain ⟨hcx,hfx⟩:=bcell hgx;have hz0:w.heap.size<wx.heap.size:=(by have:=hgx.size;(try simp at this);omega)))
  go_ret
  exact ⟨ret_int (by rw [hk]),by repeat' (first | (with_reducible exact Below.refl _ _) | (with_reducible assumption) | (with_reducible refine kept_alloc ?_ _) | (with_reducible refine kept_drewN ?_ _) | (with_reducible refine Below.drew ?_) | (with_reducible refine Below.setCell ?_ (by first | omega | (simp;omega) | (simp;done)) _) | (refine kept_trans ?_ (by with_reducible assumption)))⟩
 ·have hk:=room_yes hm
  have hp:=may_iff.1 hm
  obtain rfl | rfl | rfl | rfl | rfl | rfl:lg=1∨lg=2∨lg=3∨lg=4∨lg=5∨lg=6:=by omega
  all_goals
   clear hp
   go_enter Tryz.func41,Tryz.ntmps41
   go_wp2_with (first | (go_at_call 71;refine (cmay_any _ _ _ _ _ _ _ _).mono ?_;rintro e wx ⟨rfl,hgx⟩;obtain ⟨hcx,hfx⟩:=bcell hgx;have hz0:w.heap.size<wx.heap.size:=(by have:=hgx.size;(try simp at this);omega)))
   go_ret
   exact ⟨ret_int (by rw [hk];rfl),by repeat' (first | (with_reducible exact Below.refl _ _) | (with_reducible assumption) | (with_reducible refine kept_alloc ?_ _) | (with_reducible refine kept_drewN ?_ _) | (with_reducible refine Below.drew ?_) | (with_reducible refine Below.setCell ?_ (by first | omega | (simp;omega) | (simp;done)) _) | (refine kept_trans ?_ (by with_reducible assumption)))⟩
set_option maxHeartbeats 4000000 in
theorem rccheck_any (lg th po wt sp yi:Int) (si:Bool) (w:World):Calls Tryz.prog 139 #[.agg #[.int .i64 lg,.int .i64 th,.int .i64 po,.int .i64 wt,.int .i64 sp,.int .i64 yi,.bool si]] w fun e w' => e = .returned (.int .i64 (ckI lg th po wt sp yi))∧Kept w w' := by
 go_enter Tryz.func139,Tryz.ntmps139
 go_wp2
 all_goals (go_ret;exact ⟨ret_int (by (try simp only [bne_eq_false_iff_eq,beq_eq_false_iff_ne,ne_eq,bne_iff_ne,beq_iff_eq] at *);first | rw [ck_yes (may_iff.2 (by omega))] | rw [ck_no (may_f (by omega))]),by repeat' (first | (with_reducible exact Below.refl _ _) | (with_reducible assumption) | (with_reducible refine kept_alloc ?_ _) | (with_reducible refine kept_drewN ?_ _) | (with_reducible refine Below.drew ?_) | (with_reducible refine Below.setCell ?_ (by first | omega | (simp;omega) | (simp;done)) _) | (refine kept_trans ?_ (by with_reducible assumption)))⟩)
end
section
open Go.RowKit
theorem ac_place {p r:Int} (hp:In64 p) (hr:In64 r):AC Tryz.prog 118 [.int .i64 p,.int .i64 r] (.int .i64 (placeI p r)):=by
 intro O W vs hl hat
 obtain ⟨ys,rfl,_,_,rfl,h0,_,_,rfl,h1,rfl⟩:=args_of hat
 rw [rp_int] at h0 h1
 subst h0 h1
 refine (place_any p r hp hr W).mono ?_
 rintro e W' ⟨rfl,hk⟩
 exact ⟨_,rfl,rp_int.2 rfl,hk⟩
theorem ac_sring {r:Int} {b:Bool} (hb:ringB r=b):AC Tryz.prog 70 [.int .i64 r] (.bool b):=by
 subst hb;unfold ringB
 cases h:decide (1≤r)
 ·exact ac_path mixed (ext:=[]) (fuel:=9) (n:=6) (orc:=[.bool false]) (an h trivial) (by kernel_rfl)
 ·exact ac_path mixed (ext:=[]) (fuel:=9) (n:=6) (orc:=[.bool true]) (an h trivial) (by kernel_rfl)
def hdSc (l:List Slo) (i:Int):Sg:=⟨mkT 34 [(0,rowS l),(9,rowS l),(10,.int .i64 l.length),(11,.int .i64 i)],[]⟩
def reSc:Sg:=⟨mkT 34 [(2,vD false)],[]⟩
theorem ixSv {l:List Slo} {i:Nat} (h:i<l.length):IxP ((l.map slT).toArray) (i:Int) (slT (gs l i)):=⟨by omega,by simp [gs_eq h,h]⟩
section
variable {l:List Slo} {i:Nat} {S:Sg} {y:Exit}
section
variable (lt:decide ((i:Int)<l.length)=true) (hi:i<l.length)
include lt hi
theorem sc_low (h0:decide ((gs l i).st<0)=true):LoopP Tryz.prog (loopOf Tryz.prog 63 0) (hdSc l i) .ret reSc:=loop_end mixed (ext:=[70,283,285,63,118]) (fuel:=9) (n:=6) (im:=[]) (keep:=[2]) (orc:=[.bool true,slT (gs l i),.bool true]) (an lt<|an (ixSv hi)<|an h0 trivial) (by intro e;cases e) (by kernel_rfl)
variable (h0:decide ((gs l i).st<0)=false)
include h0
theorem sc_high (h1:decide (2199023255552<(gs l i).st)=true):LoopP Tryz.prog (loopOf Tryz.prog 63 0) (hdSc l i) .ret reSc:=loop_end mixed (ext:=[70,283,285,63,118]) (fuel:=9) (n:=6) (im:=[]) (keep:=[2]) (orc:=[.bool true,slT (gs l i),.bool false,.bool true]) (an lt<|an (ixSv hi)<|an h0<|an h1 trivial) (by intro e;cases e) (by kernel_rfl)
variable (h1:decide (2199023255552<(gs l i).st)=false) (hp:AC Tryz.prog 118 [.int .i64 (gs l i).st,.int .i64 l.length] (.int .i64 (placeI (gs l i).st l.length)))
include h1 hp
theorem sc_ne (h2:(placeI (gs l i).st l.length != i)=true):LoopP Tryz.prog (loopOf Tryz.prog 63 0) (hdSc l i) .ret reSc:=loop_end mixed (ext:=[70,283,285,63,118]) (fuel:=9) (n:=6) (im:=[]) (keep:=[2]) (orc:=[.bool true,slT (gs l i),.bool false,.bool false,.int .i64 (placeI (gs l i).st l.length),.bool true]) (an lt<|an (ixSv hi)<|an h0<|an h1<|an hp<|an h2 trivial) (by intro e;cases e) (by kernel_rfl)
theorem sc_ok (h2:(placeI (gs l i).st l.length != i)=false) (j1:In64 ((i:Int)+1)) (hL:LoopP Tryz.prog (loopOf Tryz.prog 63 0) (hdSc l (i+1)) y S):LoopP Tryz.prog (loopOf Tryz.prog 63 0) (hdSc l i) y S:=loop_more mixed (ext:=[70,283,285,63,118]) (fuel:=9) (n:=6) (im:=[]) (keep:=[0,9,10,11]) (orc:=[.bool true,slT (gs l i),.bool false,.bool false,.int .i64 (placeI (gs l i).st l.length),.bool false]) (an lt<|an (ixSv hi)<|an h0<|an h1<|an hp<|an h2<|an j1 trivial) (by kernel_rfl) hL
end
theorem sc_end {j:Int} (lt:decide (j<l.length)=false):LoopP Tryz.prog (loopOf Tryz.prog 63 0) (hdSc l j) (.exit 0) (hdSc l j):=loop_end mixed (ext:=[70,283,285,63,118]) (fuel:=9) (n:=6) (im:=[]) (keep:=[0,9,10,11]) (orc:=[.bool false]) (an lt trivial) (by intro e;cases e) (by kernel_rfl)
theorem sc_one (hm:l.length≤1000) (hi:i<l.length):(slotB l.length i (gs l i)=true∧∀ {S:Sg} {y:Exit},LoopP Tryz.prog (loopOf Tryz.prog 63 0) (hdSc l (i+1)) y S→LoopP Tryz.prog (loopOf Tryz.prog 63 0) (hdSc l i) y S)∨(slotB l.length i (gs l i)=false∧LoopP Tryz.prog (loopOf Tryz.prog 63 0) (hdSc l i) .ret reSc):=by
 have lt:decide ((i:Int)<l.length)=true:=by simp;omega
 have j1:In64 ((i:Int)+1):=by constructor <;> omega
 unfold slotB
 cases h0:decide ((gs l i).st<0)
 ·cases h1:decide (2199023255552<(gs l i).st)
  ·have a0:=of_decide_eq_false h0
   have a1:=of_decide_eq_false h1
   have hp:=ac_place (p:=(gs l i).st) (r:=l.length) (by constructor <;> omega) (by constructor <;> omega)
   cases h2:placeI (gs l i).st l.length != i
   ·exact .inl ⟨by simp at h2;simp [h2];omega,fun hL=>sc_ok lt hi h0 h1 hp h2 j1 hL⟩
   ·exact .inr ⟨by simp at h2;simp [h2],sc_ne lt hi h0 h1 hp h2⟩
  ·exact .inr ⟨by have:=of_decide_eq_true h1;simp;omega,sc_high lt hi h0 h1⟩
 ·exact .inr ⟨by have:=of_decide_eq_true h0;simp;omega,sc_low lt hi h0⟩
theorem sc_all (hm:l.length≤1000) (h:∀ i,i<l.length→slotB l.length i (gs l i)=true):∀ (k i:Nat),l.length - i=k→i≤l.length→LoopP Tryz.prog (loopOf Tryz.prog 63 0) (hdSc l i) (.exit 0) (hdSc l l.length)
 | 0,i,hk,hi=>by
  have:i=l.length:=by omega
  subst this
  exact sc_end (by simp)
 | k+1,i,hk,hi=>by
  rcases sc_one hm (show i<l.length by omega) with ⟨-,f⟩ | ⟨e,-⟩
  ·exact f (sc_all hm h k (i+1) (by omega) (by omega))
  ·rw [h i (by omega)] at e;cases e
theorem sc_bad (hm:l.length≤1000) {m:Nat} (hml:m<l.length) (h:slotB l.length m (gs l m)=false):∀ (k i:Nat),m - i=k→i≤m→LoopP Tryz.prog (loopOf Tryz.prog 63 0) (hdSc l i) .ret reSc
 | 0,i,hk,hi=>by
  have:i=m:=by omega
  subst this
  rcases sc_one hm hml with ⟨e,-⟩ | ⟨-,f⟩
  ·rw [h] at e;cases e
  ·exact f
 | k+1,i,hk,hi=>by
  rcases sc_one hm (show i<l.length by omega) with ⟨-,f⟩ | ⟨-,f⟩
  ·exact f (sc_bad hm hml h k (i+1) (by omega) (by omega))
  ·exact f
end
theorem ac_pscheck {l:List Slo} {b:Bool} (h:okSl l=b) (hm:l.length≤1000):AC Tryz.prog 63 [rowS l] (.bool b):=by
 cases hr:ringB l.length
 ·rw [show b=false by rw [← h];simp [okSl,hr]]
  exact ac_path mixed (ext:=[70,283,285,63,118]) (fuel:=9) (n:=6) (orc:=[vD false]) (an (ac_sring hr) trivial) (by kernel_rfl)
 ·by_cases ha:∀ i,i<l.length→slotB l.length i (gs l i)=true
  ·rw [show b=true by rw [← h];exact ok_iff.2 ⟨by have:=ring_iff.1 hr;omega,ha⟩]
   exact ac_path mixed (ext:=[70,283,285,63,118]) (fuel:=9) (n:=6) (orc:=[vD true,oL [] [0,9,10,11] 0 [(0,rowS l),(9,rowS l),(10,.int .i64 l.length),(11,.int .i64 l.length)] []]) (an (ac_sring hr)<|an (sc_all hm ha l.length 0 (by omega) (by omega)) trivial) (by kernel_rfl)
  ·obtain ⟨m,hml,hb⟩:∃ m,m<l.length∧slotB l.length m (gs l m)=false:=by
    simp only [Classical.not_forall] at ha
    obtain ⟨m,h1,h2⟩:=ha
    exact ⟨m,h1,by simpa using h2⟩
   rw [show b=false by rw [← h];cases e:okSl l;rfl;rw [(ok_iff.1 e).2 m hml] at hb;cases hb]
   exact ac_path mixed (ext:=[70,283,285,63,118]) (fuel:=9) (n:=6) (orc:=[vD true,oL [] [0,9,10,11] (-1) [(2,vD false)] []]) (an (ac_sring hr)<|an (sc_bad hm hml hb m 0 (by omega) (by omega)) trivial) (by kernel_rfl)
theorem ac_slies {l:List Slo} {q:Int} {b:Bool} (h:liesS l q=b) (hm:l.length≤1000):AC Tryz.prog 283 [rowS l,.int .i64 q] (.bool b):=by
 subst h;unfold liesS
 cases h0:decide (0≤q)
 ·exact ac_path mixed (ext:=[70,283,285,63,118]) (fuel:=9) (n:=6) (orc:=[.bool false]) (an h0 trivial) (by kernel_rfl)
 ·exact ac_path mixed (ext:=[70,283,285,63,118]) (fuel:=9) (n:=6) (orc:=[.bool true,.bool (okSl l)]) (an h0<|an (ac_pscheck rfl hm) trivial) (by kernel_rfl)
theorem sl_at {l:List Slo} {q:Int} (h:liesS l q=true) (hm:l.length≤1000) (hq:In64 q):AC Tryz.prog 118 [.int .i64 q,.int .i64 l.length] (.int .i64 (plc l q))∧plc l q<l.length:=by
 obtain ⟨h1,h2⟩:=plc_lt h
 have:=ac_place (p:=q) (r:=l.length) hq (by constructor <;> omega)
 rw [h2] at this
 exact ⟨this,h1⟩
theorem ac_sready {l:List Slo} {q:Int} {b:Bool} (h:rdyB l q=b) (hm:l.length≤1000) (hq:In64 q):AC Tryz.prog 285 [rowS l,.int .i64 q] (.bool b):=by
 subst h;unfold rdyB
 cases h0:liesS l q
 ·exact ac_path mixed (ext:=[70,283,285,63,118]) (fuel:=9) (n:=6) (orc:=[vD false]) (an (ac_slies h0 hm) trivial) (by kernel_rfl)
 ·obtain ⟨h1,h2⟩:=sl_at h0 hm hq
  exact ac_path mixed (ext:=[70,283,285,63,118]) (fuel:=9) (n:=6) (orc:=[vD true,.int .i64 (plc l q),slT (gs l (plc l q))]) (an (ac_slies h0 hm)<|an h1<|an (ixSv h2) trivial) (by kernel_rfl)
theorem ac_pread (l:List Slo) (q:Int) (hm:l.length≤1000) (hq:In64 q):AC Tryz.prog 276 [rowS l,.int .i64 q] (.tuple #[.int .i64 (rdV l q),.int .i64 (rdE l q)]):=by
 unfold rdV rdE
 cases h0:rdyB l q
 ·exact ac_path mixed (ext:=[70,283,285,63,118]) (fuel:=9) (n:=6) (orc:=[vD false]) (an (ac_sready h0 hm hq) trivial) (by kernel_rfl)
 ·obtain ⟨h1,h2⟩:=sl_at (rdy_lies h0).1 hm hq
  exact ac_path mixed (ext:=[70,283,285,63,118]) (fuel:=9) (n:=6) (orc:=[vD true,.int .i64 (plc l q),slT (gs l (plc l q))]) (an (ac_sready h0 hm hq)<|an h1<|an (ixSv h2) trivial) (by kernel_rfl)
def zS (n:Nat):List Slo:=List.replicate n ⟨0,0⟩
def zRow (l:List Slo):Value:=vRow l.length ((zS l.length).map slT)
theorem mk_zS {l:List Slo} (hm:l.length≤1000):MakeP l.length l.length l.length ((zS l.length).map slT) (slT ⟨0,0⟩):=⟨rfl,by omega,by omega,by unfold zS;simp⟩
theorem cp_zS (l:List Slo):l.length=l.length∧l.length=((zS l.length).map slT).length:=by simp [zS]
theorem len_zS {l m:List Slo} (h:m.length=l.length):LenP l.length m.length (m.map slT):=⟨by simp [h],by simp⟩
theorem el_S {l:List Slo} {i:Nat} (h:i<l.length):ElP (l.map slT) (0+(i:Int).toNat) (slT (gs l i)):=by simp [ElP,gs_eq h,h]
theorem id_S {l:List Slo} {i:Nat} (h:i<l.length):0≤(i:Int)∧(i:Int).toNat<l.length:=⟨by omega,by simpa using h⟩
theorem set_S (l:List Slo) (i:Nat) (u:Slo):(l.set i u).map slT=(l.map slT).set (0+(i:Int).toNat) (slT u):=by simp [List.map_set]
theorem ac_pwrite (l:List Slo) (q v:Int) (hm:l.length≤1000) (hq:In64 q):AC Tryz.prog 260 [rowS l,.int .i64 q,.int .i64 v] (.tuple #[rowS (wrL l q v),.int .i64 (wrE l q)]):=by
 unfold wrL wrE
 cases h0:liesS l q
 ·rw [show rdyB l q=false by simp [rdyB,h0]]
  exact ac_path mixed (ext:=[70,283,285,63,118]) (fuel:=9) (n:=6) (orc:=[vD false,zRow l]) (an (ac_slies h0 hm)<|an (mk_zS hm)<|an (allK_S l)<|an (cp_zS l)<|an (len_zS (l:=l) rfl) trivial) (by kernel_rfl)
 ·cases h1:rdyB l q
  ·exact ac_path mixed (ext:=[70,283,285,63,118]) (fuel:=9) (n:=6) (orc:=[vD true,vD false,zRow l]) (an (ac_slies h0 hm)<|an (ac_sready h1 hm hq)<|an (mk_zS hm)<|an (allK_S l)<|an (cp_zS l)<|an (len_zS (l:=l) rfl) trivial) (by kernel_rfl)
  ·obtain ⟨h2,h3⟩:=sl_at h0 hm hq
   have e:(gs l (plc l q)).st=q:=(rdy_lies h1).2
   have e2:(⟨q,v⟩:Slo)=⟨(gs l (plc l q)).st,v⟩:=by rw [e]
   rw [if_pos rfl,e2]
   exact ac_path mixed (ext:=[70,283,285,63,118]) (fuel:=9) (n:=6) (orc:=[vD true,vD true,zRow l,.int .i64 (plc l q),slT (gs l (plc l q)),rowS (l.set (plc l q) ⟨(gs l (plc l q)).st,v⟩)]) (an (ac_slies h0 hm)<|an (ac_sready h1 hm hq)<|an (mk_zS hm)<|an (allK_S l)<|an (cp_zS l)<|an h2<|an (id_S h3)<|an (el_S h3)<|an (set_S l (plc l q) ⟨(gs l (plc l q)).st,v⟩)<|an (len_zS (l:=l) (m:=l.set (plc l q) ⟨(gs l (plc l q)).st,v⟩) (by simp)) trivial) (by kernel_rfl)
theorem ac_prelease (l:List Slo) (q:Int) (hm:l.length≤1000) (hq:In64 q):AC Tryz.prog 270 [rowS l,.int .i64 q] (.tuple #[rowS (rlL l q),.int .i64 (rlE l q)]):=by
 unfold rlL rlE rlB
 cases h1:rdyB l q
 ·exact ac_path mixed (ext:=[70,283,285,63,118]) (fuel:=9) (n:=6) (orc:=[vD false,zRow l]) (an (ac_sready h1 hm hq)<|an (mk_zS hm)<|an (allK_S l)<|an (cp_zS l)<|an (len_zS (l:=l) rfl) trivial) (by kernel_rfl)
 ·cases h4:decide (1099511627776<q)
  ·have h5:=of_decide_eq_false h4
   obtain ⟨h2,h3⟩:=sl_at (rdy_lies h1).1 hm hq
   rw [if_pos (by simp;omega),if_pos (by simp;omega)]
   have h0:=(lies_iff.1 (rdy_lies h1).1).1
   exact ac_path mixed (ext:=[70,283,285,63,118]) (fuel:=9) (n:=6) (orc:=[vD true,.bool false,zRow l,.int .i64 (plc l q),slT (gs l (plc l q)),rowS (l.set (plc l q) ⟨q+l.length,(gs l (plc l q)).vl⟩)]) (an (ac_sready h1 hm hq)<|an h4<|an (mk_zS hm)<|an (allK_S l)<|an (cp_zS l)<|an h2<|an (id_S h3)<|an (show In64 (q+(l.length:Int)) by constructor <;> omega)<|an (el_S h3)<|an (set_S l (plc l q) ⟨q+l.length,(gs l (plc l q)).vl⟩)<|an (len_zS (l:=l) (m:=l.set (plc l q) ⟨q+l.length,(gs l (plc l q)).vl⟩) (by simp)) trivial) (by kernel_rfl)
  ·have h5:=of_decide_eq_true h4
   rw [if_neg (by simp;omega),if_neg (by simp;omega)]
   exact ac_path mixed (ext:=[70,283,285,63,118]) (fuel:=9) (n:=6) (orc:=[vD true,.bool true,zRow l]) (an (ac_sready h1 hm hq)<|an h4<|an (mk_zS hm)<|an (allK_S l)<|an (cp_zS l)<|an (len_zS (l:=l) rfl) trivial) (by kernel_rfl)
def soS (k j:Nat):List Slo:=(List.range k).map fun (i:Nat)=>(⟨if i<j then (i:Int) else 0,0⟩:Slo)
theorem soS_len (k j:Nat):(soS k j).length=k:=by simp [soS]
theorem soS_zero (k:Nat):soS k 0=List.replicate k ⟨0,0⟩:=by
 apply List.ext_getElem
 ·simp [soS]
 ·intro i h1 h2;simp [soS]
theorem soS_all (k:Nat):soS k k=(List.range k).map fun (i:Nat)=>(⟨(i:Int),0⟩:Slo):=by
 unfold soS
 apply List.map_congr_left
 intro i hi
 rw [if_pos (List.mem_range.1 hi)]
theorem soS_set (k j:Nat) (hj:j<k):(soS k j).set j ⟨(j:Int),(gs (soS k j) j).vl⟩=soS k (j+1):=by
 have hv:(gs (soS k j) j).vl=0:=by rw [gs_eq (by rw [soS_len];exact hj)];simp [soS]
 rw [hv]
 apply List.ext_getElem
 ·simp [soS]
 ·intro i h1 h2
  simp only [soS,List.getElem_set,List.getElem_map,List.getElem_range]
  by_cases h:j=i
  ·subst h;simp
  ·rw [if_neg h]
   by_cases h3:i<j
   ·rw [if_pos h3,if_pos (by omega)]
   ·rw [if_neg h3,if_neg (by omega)]
def hdNw (n:Nat) (j:Int) (m:List Slo):Sg:=⟨mkT 22 [(3,.slice (some ⟨0,0,some 0⟩) n 0),(11,.int .i64 n),(12,.int .i64 j)],[some ⟨true,true,2,n,m.map slT⟩]⟩
section
variable {n j:Nat} {m:List Slo} {S:Sg} {y:Exit}
theorem nw_more (lt:decide ((j:Int)<n)=true) (hj:j<n) (hm:m.length=n) (j1:In64 ((j:Int)+1)) (hL:LoopP Tryz.prog (loopOf Tryz.prog 40 0) (hdNw n (j+1) (m.set j ⟨j,(gs m j).vl⟩)) y S):LoopP Tryz.prog (loopOf Tryz.prog 40 0) (hdNw n j m) y S:=loop_more mixed (ext:=[70,283,285,63,118]) (fuel:=9) (n:=6) (im:=[0]) (keep:=[3,11,12]) (orc:=[.bool true,slT (gs m j),vRow n ((m.set j ⟨j,(gs m j).vl⟩).map slT)]) (an lt<|an (show 0≤(j:Int)∧(j:Int).toNat<n from ⟨by omega,by simpa using hj⟩)<|an (el_S (hm ▸ hj))<|an (set_S m j ⟨j,(gs m j).vl⟩)<|an j1 trivial) (by kernel_rfl) hL
theorem nw_end (lt:decide ((j:Int)<n)=false):LoopP Tryz.prog (loopOf Tryz.prog 40 0) (hdNw n j m) (.exit 0) (hdNw n j m):=loop_end mixed (ext:=[70,283,285,63,118]) (fuel:=9) (n:=6) (im:=[0]) (keep:=[3,11,12]) (orc:=[.bool false]) (an lt trivial) (by intro e;cases e) (by kernel_rfl)
theorem nw_lp (hn:n≤1000):∀ (k j:Nat),n - j=k→j≤n→LoopP Tryz.prog (loopOf Tryz.prog 40 0) (hdNw n j (soS n j)) (.exit 0) (hdNw n n (soS n n))
 | 0,j,hk,hj=>by
  have:j=n:=by omega
  subst this
  exact nw_end (by simp)
 | k+1,j,hk,hj=>by
  have hj' : j<n:=by omega
  have ih:=nw_lp hn k (j+1) (by omega) (by omega)
  rw [← soS_set n j hj'] at ih
  exact nw_more (by simp;omega) hj' (soS_len n j) (by constructor <;> omega) ih
end
theorem ac_snew (r:Int) (_hr:In64 r):AC Tryz.prog 40 [.int .i64 r] (rowS (newL r)):=by
 unfold newL
 cases hb:ringB r
 ·exact ac_path mixed (ext:=[70,283,285,63,118]) (fuel:=9) (n:=6) (orc:=[vD false]) (an (ac_sring hb) trivial) (by kernel_rfl)
 ·have h:=ring_iff.1 hb
  obtain ⟨n,rfl⟩:∃ n:Nat,r=n:=⟨r.toNat,by omega⟩
  have hL:=nw_lp (n:=n) (by omega) n 0 (by omega) (by omega)
  rw [soS_zero,soS_all] at hL
  rw [if_pos rfl,Int.toNat_natCast]
  generalize hg:(List.range n).map (fun (i:Nat)=>(⟨(i:Int),0⟩:Slo))=g at hL
  have hl:g.length=n:=by rw [← hg];simp
  have key:AC Tryz.prog 40 [.int .i64 n] (vRow n (g.map slT)) :=
   ac_path mixed (ext:=[70,283,285,63,118]) (fuel:=9) (n:=6) (orc:=[vD true,vRow n ((zS n).map slT),oL [0] [3,11,12] 0 [(3,.slice (some ⟨0,0,some 0⟩) n 0),(11,.int .i64 n),(12,.int .i64 n)] [some ⟨true,true,2,n,g.map slT⟩]]) (an (ac_sring hb)<|an (show MakeP (n:Int) n n ((zS n).map slT) (slT ⟨0,0⟩) from ⟨rfl,by omega,by omega,by unfold zS;simp⟩)<|an hL<|an (show LenP n n (g.map slT) from ⟨by simp [hl],by simp [hl]⟩) trivial) (by kernel_rfl)
  have e:rowS g=vRow n (g.map slT):=by unfold rowS;rw [← hl]
  rw [e];exact key
end
section
open Go.RowKit
theorem two_is {f:Operand→Value} {x y:Operand} {a b:Value} (h:[x,y].map f=[a,b]):f x=a∧f y=b:=by simpa using h
theorem guard_agg {t:TypeId} (hg:Tryz.prog.eqGuardType Tryz.prog.depth t=false) (x y:Operand) (a b:Array Value) (W:World):(eqGuard .neq t x y (.agg a) (.agg b)).run Tryz.prog W = .ok () W∧(eqGuard .eql t x y (.agg a) (.agg b)).run Tryz.prog W = .ok () W:=by
 constructor <;> simp [eqGuard,hg]
theorem ask_bin {t:TypeId} {bo:BinOp} {a b:Array Value} {r:Value} (hg:∀ x y W,(eqGuard bo t x y (.agg a) (.agg b)).run Tryz.prog W = .ok () W) (h:∀ W,(binOp bo t (.agg a) (.agg b)).run Tryz.prog W = .ok r W) (x y:Operand):AskP Tryz.prog (.binOp bo t x y t) [.agg a,.agg b] r:=by
 intro W o f ho hm
 obtain ⟨h1,h2⟩:=two_is hm
 simp [execOp,ho,h1,h2,hg,h]
end
section
open Go.RowKit
theorem ac_pside (k:Int):AC Tryz.prog 58 [.int .i64 k] (.int .i64 (opSide k)):=by
 rcases op_cases k with rfl | rfl | rfl | rfl | rfl | rfl | rfl | rfl | h
 ·exact ac_path mixed (ext:=[]) (fuel:=9) (n:=6) (orc:=List.replicate 1 .nilFunc) trivial (by kernel_rfl)
 ·exact ac_path mixed (ext:=[]) (fuel:=9) (n:=6) (orc:=List.replicate 2 .nilFunc) trivial (by kernel_rfl)
 ·exact ac_path mixed (ext:=[]) (fuel:=9) (n:=6) (orc:=List.replicate 3 .nilFunc) trivial (by kernel_rfl)
 ·exact ac_path mixed (ext:=[]) (fuel:=9) (n:=6) (orc:=List.replicate 4 .nilFunc) trivial (by kernel_rfl)
 ·exact ac_path mixed (ext:=[]) (fuel:=9) (n:=6) (orc:=List.replicate 5 .nilFunc) trivial (by kernel_rfl)
 ·exact ac_path mixed (ext:=[]) (fuel:=9) (n:=6) (orc:=List.replicate 6 .nilFunc) trivial (by kernel_rfl)
 ·exact ac_path mixed (ext:=[]) (fuel:=9) (n:=6) (orc:=List.replicate 7 .nilFunc) trivial (by kernel_rfl)
 ·exact ac_path mixed (ext:=[]) (fuel:=9) (n:=6) (orc:=List.replicate 8 .nilFunc) trivial (by kernel_rfl)
 ·have no:∀ j:Int,1≤j→j≤8→(k==j)=false:=fun j _ _=>by simp;omega
  rw [show opSide k=0 by have:=side_is k;omega]
  exact ac_path mixed (ext:=[]) (fuel:=9) (n:=6) (orc:=List.replicate 8 (.bool false)) (an (no 1 (by omega) (by omega))<|an (no 2 (by omega) (by omega))<|an (no 3 (by omega) (by omega))<|an (no 4 (by omega) (by omega))<|an (no 5 (by omega) (by omega))<|an (no 6 (by omega) (by omega))<|an (no 7 (by omega) (by omega))<|an (no 8 (by omega) (by omega)) trivial) (by kernel_rfl)
theorem side_op (k:Int):(opSide k != 0)=opB k:=by
 have:=side_is k
 rw [Bool.eq_iff_iff]
 simp [opB];omega
theorem ac_ocheck {k:Int} {b:Bool} (hb:opB k=b):AC Tryz.prog 57 [.int .i64 k] (.bool b):=by
 rw [← hb,← side_op]
 exact ac_path mixed (ext:=[58]) (fuel:=9) (n:=6) (orc:=[.int .i64 (opSide k)]) (an (ac_pside k) trivial) (by kernel_rfl)
theorem ac_otimed {k:Int} {b:Bool} (hb:opTimed k=b):AC Tryz.prog 59 [.int .i64 k] (.bool b):=by
 rw [← hb];unfold opTimed
 cases h:k==3
 ·exact ac_path mixed (ext:=[]) (fuel:=9) (n:=6) (orc:=[.bool false]) (an h trivial) (by kernel_rfl)
 ·exact ac_path mixed (ext:=[]) (fuel:=9) (n:=6) (orc:=[.bool true]) (an h trivial) (by kernel_rfl)
theorem ac_ponce {k:Int} {b:Bool} (hb:opOnce k=b):AC Tryz.prog 298 [.int .i64 k] (.bool b):=by
 rw [← hb];unfold opOnce
 cases h:k==2
 ·exact ac_path mixed (ext:=[]) (fuel:=9) (n:=6) (orc:=[.bool false]) (an h trivial) (by kernel_rfl)
 ·exact ac_path mixed (ext:=[]) (fuel:=9) (n:=6) (orc:=[.bool true]) (an h trivial) (by kernel_rfl)
theorem ac_omay {c:Cf} {i k r:Int} (h:opMay c.th c.si i k=r):AC Tryz.prog 132 [cfT c,.int .i64 i,.int .i64 k] (.int .i64 r):=by
 subst h;unfold opMay
 cases h0:decide (i<0)
 ·cases h1:decide (c.th≤i)
  ·rw [if_neg (by simp at h0 h1;omega)]
   cases h2:opB k
   ·rw [if_pos rfl]
    exact ac_path mixed (ext:=[57,58]) (fuel:=9) (n:=6) (orc:=[.bool false,.bool false,vD false]) (an h0<|an h1<|an (ac_ocheck h2) trivial) (by kernel_rfl)
   ·rw [if_neg (by simp)]
    cases h3:c.si
    ·rw [if_neg (by simp)]
     exact ac_path mixed (ext:=[57,58]) (fuel:=9) (n:=6) (orc:=[.bool false,.bool false,vD true,.bool false]) (an h0<|an h1<|an (ac_ocheck h2)<|an h3 trivial) (by kernel_rfl)
    ·cases h4:opSide k==2
     ·rw [if_neg (by simp at h4;simp [h4])]
      exact ac_path mixed (ext:=[57,58]) (fuel:=9) (n:=6) (orc:=[.bool false,.bool false,vD true,.bool true,.int .i64 (opSide k),.bool false]) (an h0<|an h1<|an (ac_ocheck h2)<|an h3<|an (ac_pside k)<|an h4 trivial) (by kernel_rfl)
     ·cases h5:i != 0
      ·rw [if_neg (by simp at h5;simp [h5])]
       exact ac_path mixed (ext:=[57,58]) (fuel:=9) (n:=6) (orc:=[.bool false,.bool false,vD true,.bool true,.int .i64 (opSide k),.bool true,.bool false]) (an h0<|an h1<|an (ac_ocheck h2)<|an h3<|an (ac_pside k)<|an h4<|an h5 trivial) (by kernel_rfl)
      ·rw [if_pos (by simp at h4 h5;simp [h4,h5])]
       exact ac_path mixed (ext:=[57,58]) (fuel:=9) (n:=6) (orc:=[.bool false,.bool false,vD true,.bool true,.int .i64 (opSide k),.bool true,.bool true]) (an h0<|an h1<|an (ac_ocheck h2)<|an h3<|an (ac_pside k)<|an h4<|an h5 trivial) (by kernel_rfl)
  ·rw [if_pos (by simp at h1;omega)]
   exact ac_path mixed (ext:=[57,58]) (fuel:=9) (n:=6) (orc:=[.bool false,.bool true]) (an h0<|an h1 trivial) (by kernel_rfl)
 ·rw [if_pos (by simp at h0;omega)]
  exact ac_path mixed (ext:=[57,58]) (fuel:=9) (n:=6) (orc:=[.bool true]) (an h0 trivial) (by kernel_rfl)
theorem ac_twithin {n l h:Int} {b:Bool} (hb:thIn n l h=b):AC Tryz.prog 168 [.int .i64 n,.int .i64 l,.int .i64 h] (.bool b):=by
 rw [← hb];unfold thIn
 cases h1:decide (l≤n)
 ·exact ac_path mixed (ext:=[]) (fuel:=9) (n:=6) (orc:=[.bool false]) (an h1 trivial) (by kernel_rfl)
 ·exact ac_path mixed (ext:=[]) (fuel:=9) (n:=6) (orc:=[.bool true]) (an h1 trivial) (by kernel_rfl)
theorem ac_tdoes {t:Th} {b:Bool} (hb:thDoes t.st t.ki=b):AC Tryz.prog 122 [thT t] (.bool b):=by
 subst hb;unfold thDoes
 cases h1:t.st==0
 ·cases h3:thIn t.st 0 2
  ·exact ac_path mixed (ext:=[57,59,168]) (fuel:=9) (n:=6) (orc:=[.bool false,vD false]) (an h1<|an (ac_twithin h3) trivial) (by kernel_rfl)
  ·exact ac_path mixed (ext:=[57,59,168]) (fuel:=9) (n:=6) (orc:=[.bool false,vD true,.bool (opB t.ki)]) (an h1<|an (ac_twithin h3)<|an (ac_ocheck (b:=opB t.ki) rfl) trivial) (by kernel_rfl)
 ·cases h2:t.ki==0
  ·cases h3:thIn t.st 0 2
   ·exact ac_path mixed (ext:=[57,59,168]) (fuel:=9) (n:=6) (orc:=[.bool true,.bool false,vD false]) (an h1<|an h2<|an (ac_twithin h3) trivial) (by kernel_rfl)
   ·exact ac_path mixed (ext:=[57,59,168]) (fuel:=9) (n:=6) (orc:=[.bool true,.bool false,vD true,.bool (opB t.ki)]) (an h1<|an h2<|an (ac_twithin h3)<|an (ac_ocheck (b:=opB t.ki) rfl) trivial) (by kernel_rfl)
  ·exact ac_path mixed (ext:=[57,59,168]) (fuel:=9) (n:=6) (orc:=[.bool true,.bool true]) (an h1<|an h2 trivial) (by kernel_rfl)
theorem ac_twaits {t:Th} {b:Bool} (hb:thWaits t.ki t.un t.la=b):AC Tryz.prog 123 [thT t] (.bool b):=by
 subst hb;unfold thWaits
 cases h1:opTimed t.ki
 ·cases h2:t.un==0
  ·exact ac_path mixed (ext:=[57,59,168]) (fuel:=9) (n:=6) (orc:=[vD false,.bool false]) (an (ac_otimed h1)<|an h2 trivial) (by kernel_rfl)
  ·exact ac_path mixed (ext:=[57,59,168]) (fuel:=9) (n:=6) (orc:=[vD false,.bool true]) (an (ac_otimed h1)<|an h2 trivial) (by kernel_rfl)
 ·exact ac_path mixed (ext:=[57,59,168]) (fuel:=9) (n:=6) (orc:=[vD true,.bool (thIn t.un 0 1099511627776)]) (an (ac_otimed h1)<|an (ac_twithin (b:=thIn t.un 0 1099511627776) rfl) trivial) (by kernel_rfl)
theorem ac_tcounts {t:Th} {b:Bool} (hb:thCounts t.pc t.re t.se t.tr t.rs=b):AC Tryz.prog 124 [thT t] (.bool b):=by
 subst hb;unfold thCounts
 cases h1:thIn t.pc 0 11
 ·exact ac_path mixed (ext:=[57,59,168]) (fuel:=9) (n:=6) (orc:=[vD false]) (an (ac_twithin h1) trivial) (by kernel_rfl)
 cases h2:thIn t.re 0 1099511627776
 ·exact ac_path mixed (ext:=[57,59,168]) (fuel:=9) (n:=6) (orc:=[vD true,vD false]) (an (ac_twithin h1)<|an (ac_twithin h2) trivial) (by kernel_rfl)
 cases h3:thIn t.se (-1) 1099511627776
 ·exact ac_path mixed (ext:=[57,59,168]) (fuel:=9) (n:=6) (orc:=[vD true,vD true,vD false]) (an (ac_twithin h1)<|an (ac_twithin h2)<|an (ac_twithin h3) trivial) (by kernel_rfl)
 cases h4:thIn t.tr 0 1099511627776
 ·exact ac_path mixed (ext:=[57,59,168]) (fuel:=9) (n:=6) (orc:=[vD true,vD true,vD true,vD false]) (an (ac_twithin h1)<|an (ac_twithin h2)<|an (ac_twithin h3)<|an (ac_twithin h4) trivial) (by kernel_rfl)
 ·exact ac_path mixed (ext:=[57,59,168]) (fuel:=9) (n:=6) (orc:=[vD true,vD true,vD true,vD true,.bool (thIn t.rs 0 7)]) (an (ac_twithin h1)<|an (ac_twithin h2)<|an (ac_twithin h3)<|an (ac_twithin h4)<|an (ac_twithin (b:=thIn t.rs 0 7) rfl) trivial) (by kernel_rfl)
theorem ask_teV {t u:Th} {q:Bool} (h:decide (t=u)=q) (x y:Operand):AskP Tryz.prog (.binOp .eql 52 x y 52) [thT t,thT u] (.bool q) :=
 ask_bin (fun x y W=>(guard_agg (by kernel_rfl) x y _ _ W).2) (fun W=>by rw [← h];exact th_eql t u W) x y
theorem rests_is (t:Th):decide (t=(⟨0,t.ki,t.va,t.un,0,0,0,0,false,t.rs,t.go⟩:Th))=thRests t.st t.pc t.re t.se t.tr t.la:=by
 obtain ⟨st,ki,va,un,pc,re,se,tr,la,rs,go⟩:=t
 rw [Bool.eq_iff_iff]
 simp only [decide_eq_true_eq,thRests,Bool.and_eq_true,beq_iff_eq,Bool.not_eq_true',Th.mk.injEq]
 simp
theorem ac_trests {t:Th} {b:Bool} (hb:thRests t.st t.pc t.re t.se t.tr t.la=b):AC Tryz.prog 126 [thT t] (.bool b) :=
 ac_path mixed (ext:=[57,59,168]) (fuel:=9) (n:=6) (orc:=[.bool b]) (an (ask_teV ((rests_is t).trans hb) (.tmp 4) (.tmp 6)) trivial) (by kernel_rfl)
theorem ac_ptcheck {t:Th} {b:Bool} (h:thB t=b):AC Tryz.prog 68 [thT t] (.bool b):=by
 subst h;unfold thB
 cases h1:thDoes t.st t.ki
 ·exact ac_path mixed (ext:=[122,123,124,126]) (fuel:=9) (n:=6) (orc:=[vD false]) (an (ac_tdoes h1) trivial) (by kernel_rfl)
 cases h2:thWaits t.ki t.un t.la
 ·exact ac_path mixed (ext:=[122,123,124,126]) (fuel:=9) (n:=6) (orc:=[vD true,vD false]) (an (ac_tdoes h1)<|an (ac_twaits h2) trivial) (by kernel_rfl)
 cases h3:thCounts t.pc t.re t.se t.tr t.rs
 ·exact ac_path mixed (ext:=[122,123,124,126]) (fuel:=9) (n:=6) (orc:=[vD true,vD true,vD false]) (an (ac_tdoes h1)<|an (ac_twaits h2)<|an (ac_tcounts h3) trivial) (by kernel_rfl)
 cases h4:t.st==0
 ·exact ac_path mixed (ext:=[122,123,124,126]) (fuel:=9) (n:=6) (orc:=[vD true,vD true,vD true,.bool true]) (an (ac_tdoes h1)<|an (ac_twaits h2)<|an (ac_tcounts h3)<|an (show (!(t.st==0))=true by simp [h4]) trivial) (by kernel_rfl)
 ·exact ac_path mixed (ext:=[122,123,124,126]) (fuel:=9) (n:=6) (orc:=[vD true,vD true,vD true,.bool false,.bool (thRests t.st t.pc t.re t.se t.tr t.la)]) (an (ac_tdoes h1)<|an (ac_twaits h2)<|an (ac_tcounts h3)<|an (show (!(t.st==0))=false by simp [h4])<|an (ac_trests (b:=thRests t.st t.pc t.re t.se t.tr t.la) rfl) trivial) (by kernel_rfl)
end
section
open Go.ChangeShapes Go.WideShapes Go.ChangeAt Go.RowKit
section
variable {P:Program} {w:World}
theorem append_block {base:Nat} (t ty e:TypeId) (i:TypeInfo) (z:Value) (size bytes:Nat) (ht:P.underlying t=some (.slice e)) (hi:P.info? e=some i) (hz:i.zero=some z)
  (hsize:i.size=size) (hby:i.bytes=bytes) (v:Value) (n:Nat) (xs:List Value) (hown:w.ownsRow base e size v n xs)
  (a:Addr) (m c:Nat) (news:List Value) (hl:news.length=m * size) (hnews:∀ j u,news[j]? = some u→w.cell? (a.add j)=some u) (h1:∀ u∈news,u.oneCell' = true)
  (h63:n+m≤maxLen) (hbytes:(n+m) * bytes≤140737488355328) {v' : Value} {w' : World} (hr:(Builtin.append_ #[t,t] ty #[v,.slice (some a) m c]).run P w = .ok v' w') :
  ∀ g,v'.ownBlock=some g→v.ownBlock=some g∨g=w.heap.size:=by
 subst hsize
 subst hby
 rcases hown.2 with ⟨rfl,rfl⟩ | ⟨g,cap,cur,rfl,hbg,hg,hnc,hcm,hcs,htake⟩
 ·by_cases hm:m=0
  ·subst hm
   have hn:news=[]:=List.eq_nil_of_length_eq_zero (by simpa using hl)
   subst hn
   have h2:(Builtin.append_ #[t,t] ty #[.slice none 0 0,.slice (some a) 0 c]).run P w = .ok (.slice none 0 0) w:=by
    simp [Builtin.append_,run_underlying ht,sizeOf,typeInfo,hi,Builtin.lenOf,Builtin.firstCells,loadCells,loadCellsFrom]
   rw [h2] at hr
   cases hr
   intro g hg;simp [Value.ownBlock] at hg
  ·have h2:=run_append_nil (P:=P) w t ty e i z ht hi hz a m c news hl hnews (by omega) (by simp only [maxLen] at h63;omega) (by have hb:=hbytes;simp only [Nat.zero_add] at hb;omega)
   rw [h2] at hr
   cases hr
   intro g hg;simp [Value.ownBlock] at hg;exact .inr hg.symm
 ·by_cases hroom:n+m≤cap
  ·have hfit:n * i.size+news.length≤cur.size:=by rw [hl,hcs,← Nat.add_mul];exact Nat.mul_le_mul_right _ hroom
   have h2:=run_append_room (P:=P) w t ty e i ht hi g n cap cur hg a m c news hl hnews h1 hroom hfit
   rw [h2] at hr
   cases hr
   intro g' hg';exact .inl hg'
  ·have holds:∀ j u,xs[j]? = some u→w.cell? ((⟨g,0,none⟩:Addr).add j)=some u:=hown.cells (g:=g) rfl
   have h2:=run_append_grow (P:=P) w t ty e i z ht hi hz ⟨g,0,none⟩ n cap xs hown.1 holds a m c news hl hnews (by omega) (by simp only [maxLen] at h63;omega) (growslice_fits (by omega) hbytes)
   rw [h2] at hr
   cases hr
   intro g' hg';simp [Value.ownBlock] at hg';exact .inr hg'.symm
theorem wpList_appw {wb:World} {α:Type} {ops:Array Oper} {rest:List Oper} {o:Oper} {a:Act} {Q:Exit→Act→World→Prop} (hgd:Region.wanted o (yielded ops a.tmps)=true) (s x:Operand) (t:TypeId)
  (ho:o.op = .call { callee:=.builtin .append,args:=#[s,x],argTypes:=#[t,t] }) {k:Nat} {e:TypeId} {enc:α→List Value} (z:Value) (bytes:Nat) (ht:P.underlying t=some (.slice e))
  (hinfo:(P.info? e).map (fun i=>(i.zero,i.size,i.bytes))=some (some z,k,bytes)) (hzs:z.cells.size=k) (hk:0<k) (he:Enc k enc)
  {v u:Value} {xs ys:List α} (hs:a.eval s=v) (hx:a.eval x=u) (hown:Ow w wb.heap.size e k enc xs v) (hu:Sl w k enc ys u) (hB:Below wb.heap.size wb w)
  (hm:xs.length+ys.length≤maxLen) (hbytes:(xs.length+ys.length) * bytes≤140737488355328)
  (h:∀ v' w',Ow w' wb.heap.size e k enc (xs++ys) v' → Below wb.heap.size wb w' → w.grownBy w' v.ownBlock→(∀ g,v'.ownBlock=some g→v.ownBlock=some g∨g=w.heap.size)→wpList P ops Q rest (a.put o.dst v') w'):wpList P ops Q (o::rest) a w:=by
 obtain ⟨i,hi,hz0,hz1,hz2⟩:=info_parts hinfo
 obtain ⟨p,cap,rfl,hlc,hcm,hp,hc⟩:=hu.is
 cases p with
 | none =>
  have:cap=0:=hp rfl
  subst this
  have:ys=[]:=List.length_eq_zero_iff.1 (by omega)
  subst this
  have hrun:=run_append_owned_none (P:=P) (w:=w) wb.heap.size t o.type e i k ht hi v _ _ hown
  have hx' : a.eval x = .slice none 0 0:=by rw [hx];rfl
  refine wpList_step fun _ hK=>?_
  rw [if_pos hgd]
  unfold Oper.wp
  simp [execOp,ho,resolve,invoke,builtin,hs,hx',hrun,Result.andThen]
  exact hK _ _ (h v w (by rw [List.append_nil];exact hown) hB ⟨rfl,rfl,rfl,Nat.le_refl _,fun _ _ _=>rfl⟩ (fun g hg=>.inl hg))
 | some ad =>
  have hnews:∀ j c,(ys.flatMap enc)[j]? = some c→w.cell? (ad.add j)=some c:=by
   intro j c hj
   have hj' := (List.getElem?_eq_some_iff.1 hj).1
   rw [flat_len he] at hj'
   have hne:ys≠[]:=by rintro rfl;simp at hj'
   obtain ⟨b,off,hab,_,hcell⟩:=hc hne
   cases hab
   have hd:j / k<ys.length:=Nat.div_lt_of_lt_mul (by rw [Nat.mul_comm];exact hj')
   have hmo:=Nat.mod_lt j hk
   have hdm:j / k * k+j % k=j:=by rw [Nat.mul_comm];exact Nat.div_add_mod j k
   have h1:=hcell (j / k) ys[j / k] (List.getElem?_eq_getElem hd) (j % k) hmo
   have h2:=flat_get he ys (j / k) (j % k) ys[j / k] (List.getElem?_eq_getElem hd) hmo
   rw [hdm,hj] at h2
   rw [← h2,Nat.add_assoc,hdm] at h1
   rw [← h1]
   congr 1
   unfold Addr.add
   split
   ·rename_i h0;rw [h0];rfl
   ·rfl
  have hone:∀ c∈ys.flatMap enc,c.oneCell' = true:=by
   intro c hc'
   obtain ⟨y,_,hy⟩:=List.mem_flatMap.1 hc'
   exact he.one y c hy
  obtain ⟨v',w',hr,h2,h3,_⟩:=run_append_own (P:=P) w wb.heap.size t o.type e i z k bytes ht hi hz0 hz1 hz2 hzs hk v _ _ hown ad ys.length cap (ys.flatMap enc) (flat_len he ys) hnews hone hm hbytes hB.size
  have hb:=append_block (P:=P) (w:=w) t o.type e i z k bytes ht hi hz0 hz1 hz2 v _ _ hown ad ys.length cap (ys.flatMap enc) (flat_len he ys) hnews hone hm hbytes hr
  have ho' : Ow w' wb.heap.size e k enc (xs++ys) v' := by unfold Ow;rw [List.length_append,List.flatMap_append];exact h2
  refine wpList_step fun _ hK=>?_
  rw [if_pos hgd]
  unfold Oper.wp
  simp [execOp,ho,resolve,invoke,builtin,hs,hx,hr,Result.andThen]
  exact hK _ _ (h v' w' ho' (Ow.below hown hB h3) h3 hb)
theorem wpList_appb {wb:World} {α:Type} {ops:Array Oper} {rest:List Oper} {o:Oper} {a:Act} {Q:Exit→Act→World→Prop} (hgd:o.guard=none) (s x:Operand) (t:TypeId)
  (ho:o.op = .call { callee:=.builtin .append,args:=#[s,x],argTypes:=#[t,t] }) {k:Nat} {e:TypeId} {enc:α→List Value} (z:Value) (bytes:Nat) (ht:P.underlying t=some (.slice e))
  (hinfo:(P.info? e).map (fun i=>(i.zero,i.size,i.bytes))=some (some z,k,bytes)) (hzs:z.cells.size=k) (hk:0<k) (he:Enc k enc)
  {v u:Value} {xs ys:List α} (hs:a.eval s=v) (hx:a.eval x=u) (hown:Ow w wb.heap.size e k enc xs v) (hu:Sl w k enc ys u) (hB:Below wb.heap.size wb w)
  (hm:xs.length+ys.length≤maxLen) (hbytes:(xs.length+ys.length) * bytes≤140737488355328)
  (h:∀ v' w',Ow w' wb.heap.size e k enc (xs++ys) v' → Below wb.heap.size wb w' → w.grownBy w' v.ownBlock→(∀ g,v'.ownBlock=some g→v.ownBlock=some g∨g=w.heap.size)→wpList P ops Q rest (a.put o.dst v') w'):wpList P ops Q (o::rest) a w :=
 wpList_appw (by simp [Region.wanted,hgd]) s x t ho z bytes ht hinfo hzs hk he hs hx hown hu hB hm hbytes h
theorem step_appb {α:Type} {ops:Array Oper} {o:Oper} {a:Act} {K:Act→World→Prop} {Q:Exit→Act→World→Prop} {E:Prop} (hgd:o.guard=none) (s x:Operand) (t:TypeId)
  (ho:o.op = .call { callee:=.builtin .append,args:=#[s,x],argTypes:=#[t,t] }) {base k:Nat} {e:TypeId} {enc:α→List Value} (z:Value) (bytes:Nat) (ht:P.underlying t=some (.slice e))
  (hinfo:(P.info? e).map (fun i=>(i.zero,i.size,i.bytes))=some (some z,k,bytes)) (hzs:z.cells.size=k) (hk:0<k) (he:Enc k enc)
  {v u:Value} {xs ys:List α} (hs:a.eval s=v) (hx:a.eval x=u) (hown:Ow w base e k enc xs v) (hu:Sl w k enc ys u) (hne:ys≠[]) (hbase:base≤w.heap.size)
  (hm:xs.length+ys.length≤maxLen) (hbytes:(xs.length+ys.length) * bytes≤140737488355328)
  (h:∀ v' w',Ow w' base e k enc (xs++ys) v' → w.grownBy w' v.ownBlock→(∀ g,v'.ownBlock=some g→v.ownBlock=some g∨g=w.heap.size)→K (a.put o.dst v') w') :
  if Region.wanted o (yielded ops a.tmps)=true then Oper.wp P o a w K Q else E:=by
 rw [if_pos (by simp [Region.wanted,hgd])]
 obtain ⟨i,hi,hz0,hz1,hz2⟩:=info_parts hinfo
 obtain ⟨p,cap,rfl,hlc,hcm,hp,hc⟩:=hu.is
 obtain ⟨b,off,rfl,_,hcell⟩:=hc hne
 have hnews:∀ j c,(ys.flatMap enc)[j]? = some c→w.cell? ((⟨b,off,none⟩:Addr).add j)=some c:=by
  intro j c hj
  have hj' := (List.getElem?_eq_some_iff.1 hj).1
  rw [flat_len he] at hj'
  have hd:j / k<ys.length:=Nat.div_lt_of_lt_mul (by rw [Nat.mul_comm];exact hj')
  have hmo:=Nat.mod_lt j hk
  have hdm:j / k * k+j % k=j:=by rw [Nat.mul_comm];exact Nat.div_add_mod j k
  have h1:=hcell (j / k) ys[j / k] (List.getElem?_eq_getElem hd) (j % k) hmo
  have h2:=flat_get he ys (j / k) (j % k) ys[j / k] (List.getElem?_eq_getElem hd) hmo
  rw [hdm,hj] at h2
  rw [← h2,Nat.add_assoc,hdm] at h1
  rw [← h1]
  congr 1
  unfold Addr.add
  split
  ·rename_i h0;rw [h0];rfl
  ·rfl
 have hone:∀ c∈ys.flatMap enc,c.oneCell' = true:=by
  intro c hc'
  obtain ⟨y,_,hy⟩:=List.mem_flatMap.1 hc'
  exact he.one y c hy
 obtain ⟨v',w',hr,h2,h3,_⟩:=run_append_own (P:=P) w base t o.type e i z k bytes ht hi hz0 hz1 hz2 hzs hk v _ _ hown ⟨b,off,none⟩ ys.length cap (ys.flatMap enc) (flat_len he ys) hnews hone hm hbytes hbase
 have hb:=append_block (P:=P) (w:=w) t o.type e i z k bytes ht hi hz0 hz1 hz2 v _ _ hown ⟨b,off,none⟩ ys.length cap (ys.flatMap enc) (flat_len he ys) hnews hone hm hbytes hr
 have ho' : Ow w' base e k enc (xs++ys) v' := by unfold Ow;rw [List.length_append,List.flatMap_append];exact h2
 unfold Oper.wp
 simp [execOp,ho,resolve,invoke,builtin,hs,hx,hr,Result.andThen]
 exact h v' w' ho' h3 hb
end
end
section
open Go.ChangeShapes Go.WideShapes Go.ChangeAt Go.RowKit
theorem sli_at {W:World} {l:List Int} {b o n c:Nat} (h:Sl W 1 intC l (.slice (some ⟨b,o,none⟩) n c)) {j:Nat} (hj:j<l.length):W.cell? ⟨b,o+j,none⟩=some (.int .i64 l[j]):=by
 obtain ⟨p,k,e,_,_,_,h4⟩:=h.is
 cases e
 obtain ⟨b',o',e,_,h5⟩:=h4 (by intro h;subst h;simp at hj)
 cases e
 have h6:=h5 j l[j] (List.getElem?_eq_getElem hj) 0 (by omega)
 simpa [intC] using h6
def Tells (g:Nat) (lb:Array Value) (f:Int→Bool) (w:World):Prop:=∀ (W:World) (x:Int),Below w.heap.size w W→Calls Tryz.prog g (#[.int .i64 x]++lb) W fun e W' => e = .returned (.bool (f x))∧Kept W W'
theorem Tells.kept {g:Nat} {lb:Array Value} {f:Int→Bool} {w w' : World} (h:Tells g lb f w) (hk:Below w.heap.size w w'):Tells g lb f w' := fun W x hW=>h W x (kept_trans hk hW)
end
section
open Go.ChangeShapes Go.WideShapes Go.ChangeAt Go.RowKit
theorem Sl.take {α:Type} {W:World} {k:Nat} {enc:α→List Value} {xs:List α} {p:Option Addr} {n c i:Nat} (h:Sl W k enc xs (.slice p n c)) (hi:i≤xs.length):Sl W k enc (xs.take i) (.slice p i c):=by
 obtain ⟨q,cap,hv,h1,h2,h3,h4⟩:=h.is
 cases hv
 refine ⟨p,c,by simp;omega,by simp;omega,h2,h3,fun hne=>?_⟩
 obtain ⟨b,o,hp,hb,hc⟩:=h4 (by intro h;subst h;simp at hne)
 refine ⟨b,o,hp,hb,fun j x hx m hm=>hc j x ?_ m hm⟩
 rw [List.getElem?_take] at hx
 split at hx
 ·exact hx
 ·cases hx
end
section
open Go.ChangeShapes Go.WideShapes Go.ChangeAt Go.RowKit
theorem Ow.mono {α:Type} {W:World} {base base' k:Nat} {e:TypeId} {enc:α→List Value} {xs:List α} {v:Value} (h:Ow W base e k enc xs v) (hb:base' ≤ base):Ow W base' e k enc xs v:=by
 obtain ⟨h0,h1 | ⟨g,cap,cur,hv,hbg,hr⟩⟩:=h
 ·exact ⟨h0,.inl h1⟩
 ·exact ⟨h0,.inr ⟨g,cap,cur,hv,Nat.le_trans hb hbg,hr⟩⟩
def RetO (w:World) (r:List Int) (e:Ending) (w' : World):Prop :=
 ∃ (p:Option Addr) (k:Nat),e = .returned (.slice p r.length k)∧Ow w' w.heap.size 3 1 intC r (.slice p r.length k)∧Kept w w'
theorem RetO.of {W w' : World} {r:List Int} {p:Option Addr} {k:Nat} (h:Ow w' W.heap.size 3 1 intC r (.slice p r.length k)):Sl w' 1 intC r (.slice p r.length k):=Ow.sl intEnc h
end
end Go.Proofs.YtbckpadeamlidaaGreat
