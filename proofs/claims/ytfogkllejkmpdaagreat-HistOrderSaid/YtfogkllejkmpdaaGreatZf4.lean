/- Texts merged: EngUT, EngFT, ReadT, RowT, OutT, ObjT, FactsT, FabTT, FlT, CfT, IntT, IntRT, PosFT, PosCT. -/
import Derived.Test.YtfogkllejkmpdaaGreatZf3
import Derived.Test.YtfogkllejkmpdaaGreatZf1
import Derived.Deep.Slices
import Derived.Deep.Fields
import Derived.ChangeSame
import Derived.OwnWalk
import Derived.Laws.AppendOwnNone
import Derived.Deep.MidRow
import Derived.Laws.CopyRow
import Derived.Laws.Rows
import Derived.Deep.Cut
namespace Go.Proofs.YtfogkllejkmpdaaGreat
set_option linter.unusedVariables false
set_option linter.unusedSimpArgs false
set_option maxRecDepth 100000
section
open Go.RowKit
theorem bK {a b:List Nat} (h:GR a b=true) {x:Nat} (ha:x∈a) (hb:x∈b):False:=by
 have:=List.all_eq_true.1 (List.all_eq_true.1 h x ha) x hb
 simp at this
def Con (n:Nat) (ws:Nat→List Nat) (L:Array Bool) (x q:Nat):Prop:=∀ p,p<n→x∈ws p→(L.getD p false=true↔p<q)
section
variable {P:Program} {bd:Nat} {all l:List Oper} {S:Nat→Sg} {F:Nat→Fx} {R:Nat→Rc} {run:Nat→Bool} {T1:Nat→List Value}
structure Chain (P:Program) (bd:Nat) (all l:List Oper) (S:Nat→Sg) (F:Nat→Fx) (R:Nat→Rc) (run:Nat→Bool) (T1:Nat→List Value):Prop where
 st:∀ q o,l[q]? = some o→StepOk P bd all o (S q) (S (q+1)) (run q) (T1 q) (F q) (R q)
 cf:∀ q,q<l.length→∀ p,p<q→RP all p q∨ky (R p) (R q)=true
theorem Chain.at (h:Chain P bd all l S F R run T1) {q:Nat} (hq:q<l.length):StepOk P bd all l[q] (S q) (S (q+1)) (run q) (T1 q) (F q) (R q):=h.st q _ (List.getElem?_eq_getElem hq)
theorem Chain.con {ws us:Nat→List Nat} (h:Chain P bd all l S F R run T1) {L:Array Bool} (hc:Clo all L) {q:Nat} (hq:q<l.length) (hL:L.getD q false=false) (hr:Rdy all L q)
  (h1:∀ p x,ky (R p) (R q)=true→x∈ws p→x∈us q→False) (h2:∀ p x,ky (R q) (R p)=true→x∈us q→x∈ws p→False) {x:Nat} (hx:x∈us q):Con l.length ws L x q:=by
 intro p hp hxp
 rcases Nat.lt_trichotomy p q with hlt | heq | hgt
 ·rcases h.cf q hq p hlt with hb | hn
  ·exact ⟨fun _=>hlt,fun _=>hb L hc hr⟩
  ·exact (h1 p x hn hxp hx).elim
 ·subst heq
  exact ⟨(fun h' => by rw [hL] at h';cases h'),(fun h' => by omega)⟩
 ·refine ⟨fun h' => ?_,fun h' => by omega⟩
  rcases h.cf p hp q hgt with hb | hn
  ·have:=hb L hc fun o ho e he hbi=>hc p o ho h' e he hbi
   rw [hL] at this;cases this
  ·exact (h2 p x hn hx hxp).elim
theorem Chain.con_t (h:Chain P bd all l S F R run T1) {L:Array Bool} (hc:Clo all L) {q:Nat} (hq:q<l.length) (hL:L.getD q false=false) (hr:Rdy all L q) {t:Nat} (ht:t∈(R q).rt∨t∈(R q).wt):Con l.length (fun p=>(R p).wt) L t q:=by
 rcases ht with ht | ht
 ·refine h.con (us:=fun p=>(R p).rt) hc hq hL hr (fun p x hn h1 h2=>?_) (fun p x hn h1 h2=>?_) ht <;> simp only [ky,Bool.and_eq_true] at hn
  ·exact bK hn.1.1.1.1.1 h1 h2
  ·exact bK hn.1.1.1.2 h1 h2
 ·refine h.con (us:=fun p=>(R p).wt) hc hq hL hr (fun p x hn h1 h2=>?_) (fun p x hn h1 h2=>?_) ht <;> simp only [ky,Bool.and_eq_true] at hn
  ·exact bK hn.1.1.1.1.2 h1 h2
  ·exact bK hn.1.1.1.1.2 h1 h2
theorem Chain.con_d (h:Chain P bd all l S F R run T1) {L:Array Bool} (hc:Clo all L) {q:Nat} (hq:q<l.length) (hL:L.getD q false=false) (hr:Rdy all L q) {t:Nat} (ht:t∈(R q).rd∨t∈(R q).wd):Con l.length (fun p=>(R p).wd) L t q:=by
 rcases ht with ht | ht
 ·refine h.con (us:=fun p=>(R p).rd) hc hq hL hr (fun p x hn h1 h2=>?_) (fun p x hn h1 h2=>?_) ht <;> simp only [ky,Bool.and_eq_true] at hn
  ·exact bK hn.1.1.2 h1 h2
  ·exact bK hn.2 h1 h2
 ·refine h.con (us:=fun p=>(R p).wd) hc hq hL hr (fun p x hn h1 h2=>?_) (fun p x hn h1 h2=>?_) ht <;> simp only [ky,Bool.and_eq_true] at hn
  ·exact bK hn.1.2 h1 h2
  ·exact bK hn.1.2 h1 h2
theorem Chain.lenT (h:Chain P bd all l S F R run T1):∀ q,q≤l.length→(S q).T.length=(S 0).T.length
 | 0,_=>rfl
 | q+1,hq=>by
  have hs:=h.at (show q<l.length by omega)
  rw [hs.nxt,← h.lenT q (by omega)]
  have:(qM (T1 q) l[q].dst (F q).v).length=(T1 q).length:=by unfold qM;split <;> simp
  exact this.trans hs.fin.1
theorem Chain.lenH (h:Chain P bd all l S F R run T1) {q:Nat} (hq:q<l.length):(S (q+1)).H.length=(F q).nx∧(S q).H.length≤(F q).nx∧(F q).nx≤(S q).H.length+1:=by
 have hs:=h.at hq
 obtain ⟨-,h2,h3,-⟩:=dP hs.wr
 exact ⟨by rw [hs.nxt];exact xM h2,h2,h3⟩
theorem Chain.monoH (h:Chain P bd all l S F R run T1) {q:Nat}:∀ {q' : Nat},q≤q' → q' ≤ l.length→(S q).H.length≤(S q').H.length∧(S q').H.length≤(S q).H.length+(q' - q)
 | 0,h1,_=>by have:q=0:=(by omega);subst this;omega
 | q' + 1,h1,h2=>by
  by_cases e:q=q' + 1
  ·subst e;omega
  ·have h3:=h.monoH (q:=q) (q' := q') (by omega) (by omega)
   have h4:=h.lenH (q:=q') (by omega)
   omega
theorem Chain.stepT (h:Chain P bd all l S F R run T1) {q t:Nat} (hq:q<l.length) (ht:t∉(R q).wt) {v v' : Value} (hv:(S q).T[t]? = some v) (hv' : (S (q+1)).T[t]? = some v') {ρ:A8} {O:Nat→Prop} {W:World} {c:Value} (hr:Rp ρ O W v c):Rp ρ O W v' c:=by
 have hs:=h.at hq
 rw [hs.nxt] at hv'
 rw [hs.wt] at ht
 have:(T1 q)[t]? = some v' := by
  unfold qM at hv'
  cases hd:l[q].dst with
  | none=>rw [hd] at hv';exact hv'
  | some d =>
   rw [hd] at hv' ht
   simp only [Option.toList,List.mem_singleton] at ht
   simp only [List.getElem?_set_ne (Ne.symm ht)] at hv'
   exact hv'
 exact hs.fin.2 t v v' hv this _ _ _ _ hr
theorem Chain.keepT (h:Chain P bd all l S F R run T1) {q t:Nat}:∀ {q' : Nat},q≤q' → q' ≤ l.length→(∀ p,q≤p→p<q' → t∉(R p).wt)→∀ {v v' : Value},(S q).T[t]? = some v→(S q').T[t]? = some v' → ∀ {ρ:A8} {O:Nat→Prop} {W:World} {c:Value},Rp ρ O W v c→Rp ρ O W v' c
 | 0,h1,_,_,v,v',hv,hv',_,_,_,_,hr=>by
  have:q=0:=by omega
  subst this;rw [hv] at hv';cases hv';exact hr
 | q' + 1,h1,h2,h3,v,v',hv,hv',_,_,_,_,hr=>by
  by_cases e:q=q' + 1
  ·subst e;rw [hv] at hv';cases hv';exact hr
  ·have hl:t<(S q').T.length:=by
    rw [h.lenT q' (by omega),← h.lenT q (by omega)];exact (List.getElem?_eq_some_iff.1 hv).1
   exact h.stepT (by omega) (h3 q' (by omega) (by omega)) (List.getElem?_eq_getElem hl) hv' (h.keepT (by omega) (by omega) (fun p a b=>h3 p a (by omega)) hv (List.getElem?_eq_getElem hl) hr)
theorem Chain.stepH (h:Chain P bd all l S F R run T1) {q i:Nat} (hq:q<l.length) (hi:i∉(R q).wd):look (S (q+1)).H i=look (S q).H i:=by
 have hs:=h.at hq
 rw [hs.nxt]
 rw [hs.wd] at hi
 rcases V7 hs.wr i with ⟨-,h1⟩ | ⟨x,h1,-⟩
 ·exact h1
 ·exact absurd (List.mem_map.2 ⟨_,h1,rfl⟩) hi
theorem Chain.keepH (h:Chain P bd all l S F R run T1) {q i:Nat}:∀ {q' : Nat},q≤q' → q' ≤ l.length→(∀ p,q≤p→p<q' → i∉(R p).wd)→look (S q').H i=look (S q).H i
 | 0,h1,_,_=>by have:q=0:=(by omega);subst this;rfl
 | q' + 1,h1,h2,h3=>by
  by_cases e:q=q' + 1
  ·subst e;rfl
  ·rw [h.stepH (by omega) (h3 q' (by omega) (by omega))]
   exact h.keepH (by omega) (by omega) fun p a b=>h3 p a (by omega)
theorem Chain.live (h:Chain P bd all l S F R run T1) {i:Nat}:∀ {q:Nat},q≤l.length→∀ {b:Blk},look (S q).H i=some b→(∃ b0,look (S 0).H i=some b0∧(b.w=true→b0.w=true))∨(S 0).H.length≤i
 | 0,_,b,hb=>.inl ⟨b,hb,fun h=>h⟩
 | q+1,hq,b,hb=>by
  have hs:=h.at (show q<l.length by omega)
  rw [hs.nxt] at hb
  obtain ⟨-,-,-,h4⟩:=dP hs.wr
  rcases V7 hs.wr i with ⟨-,h1⟩ | ⟨x,h1,-⟩
  ·exact h.live (by omega) (h1 ▸ hb)
  ·rcases h4 _ h1 with ⟨b',hb',hw⟩ | ⟨-,hb',-⟩
   ·rcases h.live (by omega) hb' with ⟨b0,h5,h6⟩ | h5
    ·exact .inl ⟨b0,h5,fun _=>h6 hw⟩
    ·exact .inr h5
   ·have hb'' : (S q).H.length≤i:=hb'
    have:=(h.monoH (q:=0) (q' := q) (by omega) (by omega)).1
    exact .inr (by omega)
theorem Chain.ro (h:Chain P bd all l S F R run T1) {i:Nat} {b:Blk} (hb:look (S 0).H i=some b) (hw:b.w=false):∀ {q:Nat},q≤l.length→look (S q).H i=some b
 | 0,_=>hb
 | q+1,hq=>by
  have hs:=h.at (show q<l.length by omega)
  have ih:=h.ro hb hw (q:=q) (by omega)
  rw [hs.nxt]
  obtain ⟨-,-,-,h4⟩:=dP hs.wr
  rcases V7 hs.wr i with ⟨-,h1⟩ | ⟨x,h1,-⟩
  ·rw [h1];exact ih
  ·rcases h4 _ h1 with ⟨b',hb',hw'⟩ | ⟨hb',-⟩
   ·have hb'' : look (S q).H i=some b' := hb'
    rw [ih] at hb'';cases hb'';rw [hw] at hw';cases hw'
   ·have hb'' : look (S q).H i=none:=hb'
    rw [ih] at hb'';cases hb''
structure DInv (l:List Oper) (S:Nat→Sg) (F:Nat→Fx) (R:Nat→Rc) (ρ0:A8) (O0:Nat→Prop) (W0:World) (L:Array Bool) (a:Act) (W:World) (ρ:A8) (O:Nat→Prop):Prop where
 low:Low O W
 df:a.defers=[]
 sz:a.tmps.size=(S 0).T.length
 fresh:∀ q,q<l.length→L.getD q false=false→∀ i,(S q).H.length≤i→i<(F q).nx→ρ i=none
 bd:∀ i,(S l.length).H.length≤i→ρ i=none
 tm:∀ t q,q≤l.length→Con l.length (fun p=>(R p).wt) L t q→∀ v,(S q).T[t]? = some v→∃ c,a.tmps[t]? = some c∧Rp ρ O W v c
 hp:∀ i q,q≤l.length→Con l.length (fun p=>(R p).wd) L i q→HAt ρ O W i (look (S q).H i)
 inj:∀ i j q q' b b' g k k',q≤l.length→q' ≤ l.length→Con l.length (fun p=>(R p).wd) L i q→Con l.length (fun p=>(R p).wd) L j q' → look (S q).H i=some b→look (S q').H j=some b' → ρ i=some (g,k)→ρ j=some (g,k')→i=j
 sub:Sub ρ0 ρ
 new:∀ i p,ρ i=some p→ρ0 i=some p∨((S 0).H.length≤i∧(W0.heap.size≤p.1∨∃ j b k,look (S 0).H j=some b∧b.w=true∧ρ0 j=some (p.1,k)))
 still:Still O0 W0 O W
 keepO:∀ g,O0 g→(∀ i b,look (S 0).H i=some b→∀ k,ρ0 i≠some (g,k))→O g
 str:W.tape=W0.tape∧W.os=W0.os∧W.output=W0.output
 blk:∀ g,g<W0.heap.size→(∀ i b,look (S 0).H i=some b→b.w=true→∀ k,ρ0 i≠some (g,k))→W.heap[g]? = W0.heap[g]?
variable {ρ0:A8} {O0:Nat→Prop} {W0:World}
theorem DInv.next (h:Chain P bd all l S F R run T1) (hH0:HConc ρ0 O0 (S 0).H W0) {L:Array Bool} {a:Act} {W:World} {ρ:A8} {O:Nat→Prop} (hI:DInv l S F R ρ0 O0 W0 L a W ρ O) (hLs:l.length≤L.size) (hc:Clo all L) {q:Nat} (hq:q<l.length) (hL:L.getD q false=false) (hr:Rdy all L q)
  {c:Value} {ρ' : A8} {O' : Nat→Prop} {W' : World} (hv:Rp ρ' O' W' (F q).v c) (hw:∀ p∈(F q).wr,HAt ρ' O' W' p.1 p.2) (hs:Step ρ O W ρ' O' W' ((F q).wr.map (·.1)) (kills (F q).wr) (S q).H.length (F q).nx) :
  DInv l S F R ρ0 O0 W0 (L.setIfInBounds q true) (a.put l[q].dst c) W' ρ' O' := by
 have hst:=h.at hq
 obtain ⟨hd1,hd2,hd3,hd4⟩:=dP hst.wr
 obtain ⟨hx1,hx2,hx3⟩:=h.lenH hq
 have hm:=fun {x y:Nat} (h1:x≤y) (h2:y≤l.length)=>(h.monoH h1 h2).1
 have hLq:q<L.size:=by omega
 have hset:∀ p,(L.setIfInBounds q true).getD p false=(decide (p=q)||L.getD p false):=fun p=>rQ hLq
 have hcT:=fun t (ht:t∈(R q).rt∨t∈(R q).wt)=>h.con_t hc hq hL hr ht
 have hcD:=fun t (ht:t∈(R q).rd∨t∈(R q).wd)=>h.con_d hc hq hL hr ht
 -- a resource that this one does not write is where it was;one that it writes is so from just behind it on
 have conOld:∀ {ws:Nat→List Nat} {x q' : Nat},x∉ws q→Con l.length ws (L.setIfInBounds q true) x q' → Con l.length ws L x q' := fun {ws x q'} hx hcon p hp hxp=>by
  have hpq:p≠q:=fun e=>hx (e ▸ hxp)
  have:=hcon p hp hxp
  rw [hset] at this
  simpa [hpq] using this
 have conNew:∀ {ws:Nat→List Nat} {x q' : Nat},x∈ws q→Con l.length ws L x q→Con l.length ws (L.setIfInBounds q true) x q' → q<q' ∧ ∀ p,q+1≤p→p<q' → p<l.length→x∉ws p:=fun {ws x q'} hx h1 h2=>by
  have h3:=h2 q hq hx
  rw [hset] at h3
  simp at h3
  refine ⟨h3,fun p hp1 hp2 hp hxp=>?_⟩
  have h4:=h2 p hp hxp
  rw [hset] at h4
  have hpq:p≠q:=by omega
  simp only [hpq,decide_false,Bool.false_or] at h4
  have h5:=(h1 p hp hxp).1 (h4.2 hp2)
  omega
 -- the class of a live block
 have cls:∀ i q' b g k,q' ≤ l.length→Con l.length (fun p=>(R p).wd) (L.setIfInBounds q true) i q' → look (S q').H i=some b→ρ' i=some (g,k) →
   (∃ q'' b0,q'' ≤ l.length∧Con l.length (fun p=>(R p).wd) L i q'' ∧ look (S q'').H i=some b0∧ρ i=some (g,k))∨((S q).H.length≤i∧i<(F q).nx∧(W.heap.size≤g∨∃ j∈kills (F q).wr,∃ k,ρ j=some (g,k))):=fun i q' b g k hq' hcon hlk hρ=>by
  by_cases hi:i∈(R q).wd
  ·obtain ⟨h1,h2⟩:=conNew (ws:=fun p=>(R p).wd) hi (hcD i (.inr hi)) hcon
   rw [hst.wd] at hi
   obtain ⟨p,hp,rfl⟩:=List.mem_map.1 hi
   rcases hd4 p hp with ⟨b',hb',-⟩ | ⟨-,hb',hb''⟩
   ·refine .inl ⟨q,b',by omega,hcD _ (.inr (by rw [hst.wd];exact hi)),hb',?_⟩
    rcases hs.new _ _ hρ with h3 | ⟨h3,-⟩
    ·exact h3
    ·have:=aK hb';omega
   ·rcases hs.new _ _ hρ with h3 | ⟨-,-,h3⟩
    ·rw [hI.fresh q hq hL _ hb' hb''] at h3;cases h3
    ·exact .inr ⟨hb',hb'',h3⟩
  ·have hco:=conOld (ws:=fun p=>(R p).wd) hi hcon
   rcases hs.new _ _ hρ with h3 | ⟨h3,h4,h5⟩
   ·exact .inl ⟨q',b,hq',hco,hlk,h3⟩
   ·exact .inr ⟨h3,h4,h5⟩
 have hblk:∀ i q' b g k,q' ≤ l.length→Con l.length (fun p=>(R p).wd) L i q' → look (S q').H i=some b→ρ i=some (g,k)→O g∧BlkAt ρ O W g b∧k=b.k:=fun i q' b g k h1 h2 h3 h4=>by
  have:=hI.hp i q' h1 h2
  rw [h3] at this
  obtain ⟨g',hg',hO,hB⟩:=this
  rw [h4] at hg';cases hg'
  exact ⟨hO,hB,rfl⟩
 have hkill:∀ j∈kills (F q).wr,(j,none)∈(F q).wr:=fun j hj=>by
  obtain ⟨p,hp,rfl⟩:=List.mem_map.1 hj
  obtain ⟨hp1,hp2⟩:=List.mem_filter.1 hp
  have:p=(p.1,none):=by obtain ⟨a,b⟩:=p;cases b <;> simp_all
  rw [← this];exact hp1
 have killW:∀ j∈kills (F q).wr,∀ p,ρ j=some p→∃ b,look (S q).H j=some b∧b.w=true:=fun j hj p hp=>by
  rcases hd4 _ (hkill j hj) with h | ⟨-,h,h'⟩
  ·exact h
  ·rw [hI.fresh q hq hL j h h'] at hp;cases hp
 -- the blocks that this one writes,as they lay
 have wsNo:∀ g,(∀ i b,look (S 0).H i=some b→b.w=true→∀ k,ρ0 i≠some (g,k))→g<W0.heap.size→∀ i∈(F q).wr.map (·.1),∀ k,ρ i≠some (g,k):=fun g hno hg i hi k hk=>by
  obtain ⟨p,hp,rfl⟩:=List.mem_map.1 hi
  rcases hd4 p hp with ⟨b',hb',hbw⟩ | ⟨-,hb',hb''⟩
  ·rcases h.live (by omega) hb' with ⟨b0,h5,h6⟩ | h5
   ·rcases hI.new _ _ hk with h7 | ⟨h7,-⟩
    ·exact hno _ b0 h5 (h6 hbw) k h7
    ·have:=aK h5;omega
   ·rcases hI.new _ _ hk with h7 | ⟨-,h7 | ⟨j,bj,kj,h7,h8,h9⟩⟩
    ·rw [hH0.fr _ h5] at h7;cases h7
    ·simp at h7;omega
    ·exact hno j bj h7 h8 kj h9
  ·rw [hI.fresh q hq hL _ hb' hb''] at hk;cases hk
 refine ⟨hs.low,?_,?_,fun q' hq' hL' i h1 h2=>?_,fun i hi=>?_,fun t q' hq' hcon v hvt=>?_,fun i q' hq' hcon=>?_,fun i j q1 q2 b b' g k k' hq1 hq2 hc1 hc2 hl1 hl2 hr1 hr2=>?_,hI.sub.trans hs.sub,fun i p hp=>?_,hI.still.trans hs.still,fun g hg hno=>?_,⟨hs.str.1.trans hI.str.1,hs.str.2.1.trans hI.str.2.1,hs.str.2.2.trans hI.str.2.2⟩,fun g hg hno=>?_⟩
 ·have:=hI.df
  unfold Act.put;split <;> exact this
 ·have:=hI.sz
  unfold Act.put;split <;> simpa using this
 ·rw [hset] at hL'
  simp only [Bool.or_eq_false_iff,decide_eq_false_iff_not] at hL'
  have h3:=hI.fresh q' hq' hL'.2 i h1 h2
  cases hh:ρ' i with
  | none=>rfl
  | some p =>
   rcases hs.new i p hh with h4 | ⟨h4,h5,-⟩
   ·rw [h3] at h4;cases h4
   ·rcases Nat.lt_or_ge q q' with h6 | h6
    ·have:=hm (x:=q+1) (y:=q') (by omega) (by omega);omega
    ·have h7:q' < q:=by have:=hL'.1;omega
     have:=hm (x:=q' + 1) (y:=q) (by omega) (by omega)
     have:=(h.lenH hq').1;omega
 ·cases hh:ρ' i with
  | none=>rfl
  | some p =>
   rcases hs.new i p hh with h4 | ⟨-,h5,-⟩
   ·rw [hI.bd i hi] at h4;cases h4
   ·have:=hm (x:=q+1) (y:=l.length) (by omega) (by omega);omega
 ·by_cases ht:t∈(R q).wt
  ·obtain ⟨h1,h2⟩:=conNew (ws:=fun p=>(R p).wt) ht (hcT t (.inr ht)) hcon
   have hwt:=hst.wt
   cases hd:l[q].dst with
   | none=>rw [hwt,hd] at ht;simp at ht
   | some d =>
    rw [hwt,hd] at ht
    have htd:t=d:=by simpa [Option.toList] using ht
    subst htd
    have htl:t<(S 0).T.length:=by rw [← h.lenT q' hq'];exact (List.getElem?_eq_some_iff.1 hvt).1
    have h3:(S (q+1)).T[t]? = some (F q).v:=by
     rw [hst.nxt,hd]
     have:t<(T1 q).length:=by rw [hst.fin.1,h.lenT q (by omega)];exact htl
     simp [qM,this]
    exact ⟨c,by simp [Act.put,hI.sz,htl],h.keepT (by omega) hq' (fun p a b=>h2 p a b (by omega)) h3 hvt hv⟩
  ·obtain ⟨c',hc',hr'⟩:=hI.tm t q' hq' (conOld (ws:=fun p=>(R p).wt) ht hcon) v hvt
   refine ⟨c',?_,hr'.mono hs.still hs.sub⟩
   rw [hst.wt] at ht
   cases hd:l[q].dst with
   | none=>exact hc'
   | some d =>
    rw [hd] at ht
    have htd:d≠t:=by intro e;subst e;simp [Option.toList] at ht
    simp only [Act.put,Array.getElem?_setIfInBounds,if_neg htd]
    exact hc'
 ·by_cases hi:i∈(R q).wd
  ·obtain ⟨h1,h2⟩:=conNew (ws:=fun p=>(R p).wd) hi (hcD i (.inr hi)) hcon
   rw [h.keepH (show q+1≤q' by omega) hq' fun p a b=>h2 p a b (by omega),hst.nxt]
   rw [hst.wd] at hi
   rcases V7 hst.wr i with ⟨h3,-⟩ | ⟨x,h3,h4⟩
   ·exact absurd hi h3
   ·rw [h4];exact hw _ h3
  ·have hco:=conOld (ws:=fun p=>(R p).wd) hi hcon
   have:=hI.hp i q' hq' hco
   cases hl:look (S q').H i with
   | none=>trivial
   | some b =>
    rw [hl] at this
    obtain ⟨g,hg,hO,hB⟩:=this
    have hno:∀ j∈(F q).wr.map (·.1),∀ k,ρ j≠some (g,k):=fun j hj k hk=>by
     obtain ⟨p,hp,rfl⟩:=List.mem_map.1 hj
     rcases hd4 p hp with ⟨b',hb',-⟩ | ⟨-,hb',hb''⟩
     ·have:=hI.inj i p.1 q' q b b' g _ _ hq' (by omega) hco (hcD _ (.inr (by rw [hst.wd];exact hj))) hl hb' hg hk
      subst this
      rw [hst.wd] at hi;exact hi hj
     ·rw [hI.fresh q hq hL _ hb' hb''] at hk;cases hk
    exact ⟨g,hs.sub _ _ hg,hs.keepO g hO hno,hB.mono hs.still hs.sub (hs.blk g hB.lt hno)⟩
 ·have apart:∀ i q1 b g k qa ba,q1≤l.length→Con l.length (fun p=>(R p).wd) (L.setIfInBounds q true) i q1→look (S q1).H i=some b→qa≤l.length→Con l.length (fun p=>(R p).wd) L i qa→look (S qa).H i=some ba→ρ i=some (g,k)→(W.heap.size≤g∨∃ j∈kills (F q).wr,∃ k,ρ j=some (g,k))→False:=fun i q1 b g k qa ba hq1 hc1 hl1 h1 h2 h3 h4 h5=>by
   rcases h5 with h5 | ⟨m,hm,km,h5⟩
   ·have:=(hblk i qa ba g k h1 h2 h3 h4).2.1.lt;omega
   ·obtain ⟨bm,hbm,-⟩:=killW m hm _ h5
    have hmd:m∈(R q).wd:=by rw [hst.wd];exact List.mem_map.2 ⟨_,hkill m hm,rfl⟩
    have:=hI.inj i m qa q ba bm g k km h1 (by omega) h2 (hcD m (.inr hmd)) h3 hbm h4 h5
    subst this
    obtain ⟨h6,h7⟩:=conNew (ws:=fun p=>(R p).wd) hmd (hcD i (.inr hmd)) hc1
    rw [h.keepH (show q+1≤q1 by omega) hq1 fun p a b=>h7 p a b (by omega),hst.nxt] at hl1
    have h11:look (Y0 (S q).H (F q).wr (F q).nx) i=none:=bf hd1 (hkill i hm) (by have:=aK hbm;simp;omega)
    have hl1' : look (Y0 (S q).H (F q).wr (F q).nx) i=some b:=hl1
    rw [h11] at hl1';cases hl1'
  rcases cls i q1 b g k hq1 hc1 hl1 hr1 with ⟨qa,ba,h1,h2,h3,h4⟩ | h1 <;> rcases cls j q2 b' g k' hq2 hc2 hl2 hr2 with ⟨qb,bb,h5,h6,h7,h8⟩ | h5
  ·exact hI.inj i j qa qb ba bb g k k' h1 h5 h2 h6 h3 h7 h4 h8
  ·exact (apart i q1 b g k qa ba hq1 hc1 hl1 h1 h2 h3 h4 h5.2.2).elim
  ·exact (apart j q2 b' g k' qb bb hq2 hc2 hl2 h5 h6 h7 h8 h1.2.2).elim
  ·omega
 ·rcases hs.new i p hp with h1 | ⟨h1,-,h3⟩
  ·exact hI.new i p h1
  ·have:=hm (x:=0) (y:=q) (by omega) (by omega)
   refine .inr ⟨by omega,?_⟩
   rcases h3 with h3 | ⟨j,hj,kj,h3⟩
   ·exact .inl (Nat.le_trans hI.still.size h3)
   ·obtain ⟨bj,hbj,hbw⟩:=killW j hj _ h3
    rcases hI.new _ _ h3 with h4 | ⟨-,h4⟩
    ·rcases h.live (by omega) hbj with ⟨b0,h5,h6⟩ | h5
     ·exact .inr ⟨j,b0,kj,h5,h6 hbw,h4⟩
     ·rw [hH0.fr _ h5] at h4;cases h4
    ·exact h4
 ·exact hs.keepO g (hI.keepO g hg hno) (wsNo g (fun i b hb _=>hno i b hb) (hH0.low g hg))
 ·rw [hs.blk g (Nat.lt_of_lt_of_le hg hI.still.size) (wsNo g hno hg)]
  exact hI.blk g hg hno
theorem Chain.dinit (h:Chain P bd all l S F R run T1) {a:Act} (hH:HConc ρ0 O0 (S 0).H W0) (hT:TConc ρ0 O0 (S 0).T a W0) {L:Array Bool} (f0:∀ p,p<l.length→L.getD p false=false):DInv l S F R ρ0 O0 W0 L a { W0 with drawn:=W0.drawn+1 } ρ0 O0:=by
 have mono0:=fun {y:Nat} (h2:y≤l.length)=>h.monoH (q:=0) (Nat.zero_le y) h2
 have none_:∀ {ws:Nat→List Nat} {x q:Nat},Con l.length ws L x q→∀ p,0≤p→p<q→q≤l.length→x∉ws p:=fun hcon p _ hp hq hx=>by
  have:=(hcon p (by omega) hx).2 hp
  rw [f0 p (by omega)] at this;cases this
 have sE:Still O0 W0 O0 { W0 with drawn:=W0.drawn+1 }:=⟨Nat.le_refl _,fun g _ hO=>⟨hO,rfl⟩,Shp.of_same fun _ _=>rfl⟩
 refine ⟨hH.low,hT.df,hT.sz,fun q hq _ i h1 _=>hH.fr i (Nat.le_trans (mono0 (by omega)).1 h1),fun i hi=>hH.fr i (Nat.le_trans (mono0 (Nat.le_refl _)).1 hi),fun t q hq hcon v hv=>?_,fun i q hq hcon=>?_,fun i j q q' b b' g k k' hq hq' hc1 hc2 h1 h2 h3 h4=>?_,Sub.refl _,fun i p hp=>.inl hp,sE,fun g hg _=>hg,⟨rfl,rfl,rfl⟩,fun g _ _=>rfl⟩
 ·have htl:t<(S 0).T.length:=by rw [← h.lenT q hq];exact (List.getElem?_eq_some_iff.1 hv).1
  obtain ⟨c,hc,hr⟩:=hT.tm t _ (List.getElem?_eq_getElem htl)
  exact ⟨c,hc,(h.keepT (Nat.zero_le q) hq (fun p a b=>none_ (ws:=fun p=>(R p).wt) hcon p a b hq) (List.getElem?_eq_getElem htl) hv hr).mono sE (Sub.refl _)⟩
 ·rw [h.keepH (Nat.zero_le q) hq fun p a b=>none_ (ws:=fun p=>(R p).wd) hcon p a b hq]
  have:=hH.hp i
  cases hl:look (S 0).H i with
  | none=>trivial
  | some b =>
   rw [hl] at this
   obtain ⟨g,hg,hO,hB⟩:=this
   exact ⟨g,hg,hO,hB.mono sE (Sub.refl _) rfl⟩
 ·rw [h.keepH (Nat.zero_le q) hq fun p a b=>none_ (ws:=fun p=>(R p).wd) hc1 p a b hq] at h1
  rw [h.keepH (Nat.zero_le q') hq' fun p a b=>none_ (ws:=fun p=>(R p).wd) hc2 p a b hq'] at h2
  exact hH.inj i j b b' g k k' h1 h2 h3 h4
theorem Chain.dstep {Q:Exit→Act→World→Prop} (h:Chain P bd all l S F R run T1) (hbd:(S 0).H.length+l.length≤bd) (hH:HConc ρ0 O0 (S 0).H W0) {L:Array Bool} {a:Act} {W:World} {ρ:A8} {O:Nat→Prop} (hI:DInv l S F R ρ0 O0 W0 L a W ρ O) (hLs:l.length≤L.size) (hc:Clo all L) {q:Nat} (hql:q<l.length) (hq:all[q]? = some l[q]) (hL' : L.getD q false=false) (hr' : Rdy all L q)
  {K:Act→World→Prop} (hK:∀ a' W' ρ' O',DInv l S F R ρ0 O0 W0 (L.setIfInBounds q true) a' W' ρ' O' → K a' W'):wpOp P all.toArray Q q K a W:=by
 have mono0:=fun {y:Nat} (h2:y≤l.length)=>h.monoH (q:=0) (Nat.zero_le y) h2
 have hst:=h.at hql
 have hcT:=fun t (ht:t∈(R q).rt∨t∈(R q).wt)=>h.con_t hc hql hL' hr' ht
 have hcD:=fun t (ht:t∈(R q).rd∨t∈(R q).wd)=>h.con_d hc hql hL' hr' ht
 have hwant:=hst.want ρ O W a fun t ht v hv=>hI.tm t q (by omega) (hcT t (.inl ht)) v hv
 have hi' : all.toArray[q]? = some l[q]:=by simpa using hq
 unfold wpOp
 simp only [hi',hwant]
 cases hrun:run q with
 | false =>
  obtain ⟨h1,h2⟩:=hst.skip hrun
  simp only [Bool.false_eq_true,if_false]
  obtain ⟨-,h3,h4,-⟩:=dP hst.wr
  refine hK _ _ ρ O ?_
  refine hI.next h hH hLs hc hql hL' hr' (c:=undef) (by rw [h1];exact G8.2 ⟨#[],rfl,rfl,fun i x hx=>by simp at hx⟩) (by rw [h2];intro p hp;cases hp) ?_
  exact ⟨Sub.refl _,fun _ _ h=>.inl h,Still.refl _ _,hI.low,fun _ h _=>h,⟨rfl,rfl,rfl⟩,fun _ _ _=>rfl⟩
 | true =>
  simp only [if_true]
  left
  refine hst.act hrun ρ O a W _ _ hI.low (fun x hx=>?_) (fun i hi=>hI.hp i q (by omega) (hcD i (.inl (by rw [hst.rd];exact hi)))) (fun p hp=>hI.hp p.1 q (by omega) (hcD p.1 (.inr (by rw [hst.wd];exact List.mem_map.2 ⟨p,hp,rfl⟩)))) (fun i h1 h2=>hI.fresh q hql hL' i h1 h2) (fun i hi=>hI.bd i ?_) (fun i hi j hj b b' g k k' h1 h2 h3 h4=>?_) fun c ρ' O' W' hv hw hs=>hK _ _ ρ' O' ?_
  ·cases x with
   | tmp t =>
    show Rp ρ O W (((T1 q)[t]?).getD gN) (a.tmps.getD t undef)
    cases ht:(T1 q)[t]? with
    | none=>exact dF _
    | some v1 =>
     have htl:t<(S q).T.length:=by rw [← hst.fin.1];exact (List.getElem?_eq_some_iff.1 ht).1
     obtain ⟨c,hc',hr''⟩:=hI.tm t q (by omega) (hcT t (.inl (hst.rt t hx))) _ (List.getElem?_eq_getElem htl)
     have:=hst.fin.2 t _ v1 (List.getElem?_eq_getElem htl) ht _ _ _ _ hr''
     simpa [hc'] using this
   | const v=>exact qX v
   | global g=>exact dF _
   | func f=>exact U6.2 ⟨#[],#[],rfl,⟨rfl,fun i x hx=>by simp at hx⟩,⟨rfl,fun i x hx=>by simp at hx⟩⟩
  ·have:=(mono0 (Nat.le_refl l.length)).2;omega
  ·exact hI.inj i j q q b b' g k k' (by omega) (by omega) (hcD i (.inl (by rw [hst.rd];exact hi))) (hcD j (.inl (by rw [hst.rd];exact hj))) h1 h2 h3 h4
  ·exact hI.next h hH hLs hc hql hL' hr' hv hw hs
theorem Chain.dend (h:Chain P bd all l S F R run T1) {L:Array Bool} {a:Act} {W:World} {ρ:A8} {O:Nat→Prop} (hI:DInv l S F R ρ0 O0 W0 L a W ρ O) (t0:∀ p,p<l.length→L.getD p false=true):HConc ρ O (S l.length).H W∧TConc ρ O (S l.length).T a W∧Ext ρ0 O0 (S 0).H W0 ρ O (S l.length).H W:=by
 have mono0:=fun {y:Nat} (h2:y≤l.length)=>h.monoH (q:=0) (Nat.zero_le y) h2
 have all_:∀ {ws:Nat→List Nat} {x:Nat},Con l.length ws L x l.length:=fun p hp _=>⟨fun _=>hp,fun _=>t0 p hp⟩
 exact ⟨⟨hI.low,hI.bd,fun i=>hI.hp i _ (Nat.le_refl _) all_,fun i j b b' g k k' => hI.inj i j _ _ b b' g k k' (Nat.le_refl _) (Nat.le_refl _) all_ all_⟩,⟨hI.df,by rw [h.lenT _ (Nat.le_refl _)];exact hI.sz,fun t v hv=>hI.tm t _ (Nat.le_refl _) all_ v hv⟩,
  ⟨hI.sub,hI.new,hI.still,hI.keepO,fun i b hb=>h.live (Nat.le_refl _) hb,hI.str,hI.blk,fun i b hb hw=>h.ro hb hw (Nat.le_refl _),(mono0 (Nat.le_refl _)).1⟩⟩
theorem JG {L:Array Bool} {q:Nat} (hq:q<L.size) (hL:L.getD q true=false):L.getD q false=false:=by simpa [Array.getD,hq] using hL
theorem Chain.region {id:Nat} {Q:Exit→Act→World→Prop} (h:Chain P bd l l S F R run T1) (hbd:(S 0).H.length+l.length≤bd) (hm:P.follows .mixedOrders=true) (ha:EJ l=true) {a:Act} (hH:HConc ρ0 O0 (S 0).H W0) (hT:TConc ρ0 O0 (S 0).T a W0)
  (hK:∀ ρ' O' a' W',HConc ρ' O' (S l.length).H W' → TConc ρ' O' (S l.length).T a' W' → Ext ρ0 O0 (S 0).H W0 ρ' O' (S l.length).H W' → Q .normal a' W'):(Code.region id l.toArray true).wp P Q a W0:=by
 refine dV (fun L a W=>Clo l L∧∃ ρ O,DInv l S F R ρ0 O0 W0 L a W ρ O) hm ha ⟨fun k o hk hl=>?_,ρ0,O0,h.dinit hH hT fun p hp=>by simp [Array.getD,hp]⟩ (fun L a W q o hLs hI hq hL hr=>?_) (fun a W hI=>?_)
 ·have:k<l.length:=(List.getElem?_eq_some_iff.1 hk).1
  simp [Array.getD,this] at hl
 ·obtain ⟨hc,ρ,O,hI⟩:=hI
  have hql:q<l.length:=(List.getElem?_eq_some_iff.1 hq).1
  have hoq:l[q]=o:=by have:=List.getElem?_eq_getElem hql;rw [hq] at this;exact (Option.some.inj this).symm
  have hr' : Rdy l L q:=fun o' ho' e he hb=>by rw [hq] at ho';cases ho';exact hr e he hb
  exact h.dstep hbd hH hI (by omega) hc hql (List.getElem?_eq_getElem hql) (JG (by omega) hL) hr' fun a' W' ρ' O' hI' => ⟨hc.set (by omega) hr',ρ',O',hI'⟩
 ·obtain ⟨-,ρ,O,hI⟩:=hI
  obtain ⟨h1,h2,h3⟩:=h.dend hI fun p hp=>by simp [Array.getD,hp]
  exact hK ρ O a W h1 h2 h3
theorem XV {ext:List FuncId} {call:Z5} (hcall:cz P call) {o:Oper} {s s' : Sg} {orc orc' : List Value} {ob:List Prop} (h:Mk P ext call all o s orc=some (s',orc',ob)) (hob:J3 ob) {i:Nat} (hi:all[i]? = some o) {ρ:A8} {O:Nat→Prop} {a:Act} {W:World} (hH:HConc ρ O s.H W) (hT:TConc ρ O s.T a W) {Q:Exit→Act→World→Prop} {K:Act→World→Prop}
  (hK:∀ ρ' O' a' W',HConc ρ' O' s'.H W' → TConc ρ' O' s'.T a' W' → Ext ρ O s.H W ρ' O' s'.H W' → K a' W'):wpOp P all.toArray Q i K a W:=by
 have hi' : all.toArray[i]? = some o:=by simpa using hi
 unfold Mk at h
 split at h
 ·next run T1 orc1 ob1 hg =>
  have hfin:∀ {ob2},J3 (ob1++ob2)→Finer s.T T1:=fun h=>pM hg (o6.1 h).1
  have hwant:∀ {ob2},J3 (ob1++ob2)→Region.wanted o (yielded all.toArray a.tmps)=run:=fun h=>lZ (ρ:=ρ) (O:=O) (W:=W) hg (o6.1 h).1 (fun t _ v hv=>hT.tm t v hv)
  split at h
  ·cases h
   have hob' : J3 (ob++[]):=by simpa using hob
   unfold wpOp
   simp only [hi',hwant hob',Bool.false_eq_true,if_false]
   exact hK ρ O _ W hH (jy ((hfin hob').conc hT) o.dst (G8.2 ⟨#[],rfl,rfl,fun i x hx=>by simp at hx⟩)) (Ext.refl _ _ _ _)
  ·split at h
   ·next g args hin =>
    split at h
    ·next v H' orc2 ob2 hc =>
     cases h
     obtain ⟨fo,xs,ats,fs,cs,ho,hfo,hok,rfl⟩:=pF hin
     have hT1:=(hfin hob).conc hT
     obtain ⟨ys,us,hfv,hat⟩:=args_at (T:=T1) ho hfo (fun x _=>EZ hT1 x)
     unfold wpOp
     simp only [hi',hwant hob,if_true]
     left
     refine upon_enter' (mq ho hfv hok) ((hcall _ _ _ _ _ _ _ _ hc (o6.1 hob).2 ρ O W _ hH hat).mono ?_)
     rintro e W' ⟨c,ρ',O',rfl,hv,hH',hE⟩
     exact ⟨c,rfl,hK ρ' O' _ W' hH' (jy (hT1.mono hE.still hE.sub) o.dst hv) hE⟩
    ·cases h
   ·split at h
    ·next fx orc2 ob2 hfx =>
     split at h
     ·next hw =>
      cases h
      unfold wpOp
      simp only [hi',hwant hob,if_true]
      left
      exact QH (Dv hfx (o6.1 hob).2) hw hH ((hfin hob).conc hT) hK
     ·cases h
    ·cases h
 ·cases h
theorem Vn {call:Z5} (hcall:cz P call) {ext:List FuncId} {s s' : Sg} {orc orc' : List Value} {ob:List Prop} (hm:P.follows .mixedOrders=true) (ha:EJ l=true) (h:Ha P ext call (s.H.length+l.length) l (Iu l []) l [] s orc=some (s',orc',ob)) (hob:J3 ob)
  {id:Nat} {Q:Exit→Act→World→Prop} {a:Act} (hH:HConc ρ0 O0 s.H W0) (hT:TConc ρ0 O0 s.T a W0) (hK:∀ ρ' O' a' W',HConc ρ' O' s'.H W' → TConc ρ' O' s'.T a' W' → Ext ρ0 O0 s.H W0 ρ' O' s'.H W' → Q .normal a' W'):(Code.region id l.toArray true).wp P Q a W0:=by
 obtain ⟨S,F,R,run,T1,h1,h2,-,h4⟩:=oQ hcall h hob
 simp only [List.length_nil,Nat.zero_add] at h1 h2 h4
 subst h1 h2
 have hC:Chain P ((S 0).H.length+l.length) l l S F R run T1:=⟨fun q o ho=>(h4 q o ho).1,fun q hq p hp=>((h4 q _ (List.getElem?_eq_getElem hq)).2 p hp).imp (uu l [] [] rfl rfl (fun q p hb=>by simp at hb) q p) (fun h=>h)⟩
 exact hC.region (Nat.le_refl _) hm ha hH hT hK
theorem Ri {call:Z5} (hcall:cz P call) {ext:List FuncId} {s s' : Sg} {orc orc' : List Value} {ob:List Prop} (hm:P.follows .mixedOrders=true) (ha:EJ l=true) (hl:Uk P l=true) (h:QN P ext call l s orc=some (s',orc',ob)) (hob:J3 ob)
  {id:Nat} {Q:Exit→Act→World→Prop} {a:Act} (hH:HConc ρ0 O0 s.H W0) (hT:TConc ρ0 O0 s.T a W0) (hK:∀ ρ' O' a' W',HConc ρ' O' s'.H W' → TConc ρ' O' s'.T a' W' → Ext ρ0 O0 s.H W0 ρ' O' s'.H W' → Q .normal a' W'):(Code.region id l.toArray true).wp P Q a W0:=by
 unfold QN at h
 split at h
 ·next o ho =>
  split at h
  ·next s1 orc1 ob1 h1 =>
   split at h
   ·next s2 orc2 ob2 h2 =>
    cases h
    obtain ⟨hb1,hb2⟩:=o6.1 hob
    have el:l.dropLast++[o]=l:=by
     obtain ⟨h7,h8⟩:=List.getLast?_eq_some_iff.1 ho
     rw [h8];simp
    have elen:l.length=l.dropLast.length+1:=by rw [← el];simp
    obtain ⟨S,F,R,run,T1,e1,e2,-,h4⟩:=oQ hcall h1 hb1
    simp only [List.length_nil,Nat.zero_add] at e1 e2 h4
    subst e1 e2
    have hat:∀ q (hq:q<l.dropLast.length),l[q]? = some l.dropLast[q]:=fun q hq=>by
     have:(l.dropLast++[o])[q]? = some l.dropLast[q]:=by rw [List.getElem?_append_left hq];exact List.getElem?_eq_getElem hq
     rwa [el] at this
    have hlo:l[l.dropLast.length]? = some o:=by
     have:(l.dropLast++[o])[l.dropLast.length]? = some o:=by rw [List.getElem?_append_right (Nat.le_refl _)];simp
     rwa [el] at this
    have hbef:∀ q p,((Iu l []).getD q 0).testBit p=true→RP l p q:=uu l [] [] rfl rfl (fun q p hb=>by simp at hb)
    have hC:Chain P ((S 0).H.length+l.length) l l.dropLast S F R run T1:=⟨fun q o ho=>(h4 q o ho).1,fun q hq p hp=>((h4 q _ (List.getElem?_eq_getElem hq)).2 p hp).imp (hbef q p) (fun h=>h)⟩
    have hlast:∀ p,p<l.dropLast.length→RP l p l.dropLast.length:=fun p hp=>by
     unfold Uk at hl
     rw [ho] at hl
     simp only [Bool.and_eq_true] at hl
     have h5:=List.all_eq_true.1 hl.2 p (List.mem_range.2 (by omega))
     rw [show l.length - 1=l.dropLast.length by omega] at h5
     exact hbef _ _ h5
    refine dV (fun L a W=>Clo l L∧((L.getD l.dropLast.length false=false∧∃ ρ O,DInv l.dropLast S F R ρ0 O0 W0 L a W ρ O)∨((∀ p,p<l.length→L.getD p false=true)∧∃ ρ O,HConc ρ O s'.H W∧TConc ρ O s'.T a W∧Ext ρ0 O0 (S 0).H W0 ρ O s'.H W))) hm ha ⟨fun k o hk hl=>?_,.inl ⟨?_,ρ0,O0,hC.dinit hH hT fun p hp=>?_⟩⟩ (fun L a W q o' hLs hI hq hL hr=>?_) (fun a W hI=>?_)
    ·have:k<l.length:=(List.getElem?_eq_some_iff.1 hk).1
     simp [Array.getD,this] at hl
    ·simp [Array.getD,show l.dropLast.length<l.length by omega]
    ·simp [Array.getD,show p<l.length by omega]
    ·obtain ⟨hc,hI⟩:=hI
     have hql:q<l.length:=(List.getElem?_eq_some_iff.1 hq).1
     have hL' := JG (show q<L.size by omega) hL
     have hr' : Rdy l L q:=fun o' ho' e he hb=>by rw [hq] at ho';cases ho';exact hr e he hb
     rcases hI with ⟨hL0,ρ,O,hI⟩ | ⟨hall,-⟩
     ·by_cases hqn:q<l.dropLast.length
      ·refine hC.dstep (by omega) hH hI (by omega) hc hqn (hat q hqn) hL' hr' fun a' W' ρ' O' hI' => ⟨hc.set (by omega) hr',.inl ⟨?_,ρ',O',hI'⟩⟩
       rw [rQ (show q<L.size by omega),hL0]
       simp;omega
      ·obtain rfl:q=l.dropLast.length:=by omega
       rw [hlo] at hq;cases hq
       have hdone:∀ p,p<l.dropLast.length→L.getD p false=true:=fun p hp=>hlast p hp L hc hr'
       obtain ⟨g1,g2,g3⟩:=hC.dend hI hdone
       refine XV hcall h2 hb2 hlo g1 g2 fun ρ' O' a' W' g4 g5 g6=>⟨hc.set (by omega) hr',.inr ⟨fun p hp=>?_,ρ',O',g4,g5,g3.trans g6 hH⟩⟩
       rw [rQ (show l.dropLast.length<L.size by omega)]
       by_cases e:p=l.dropLast.length
       ·simp [e]
       ·rw [hdone p (by omega)];simp
     ·rw [hall q hql] at hL';cases hL'
    ·obtain ⟨-,hI⟩:=hI
     rcases hI with ⟨hL0,-⟩ | ⟨-,ρ,O,g1,g2,g3⟩
     ·simp [Array.getD] at hL0;omega
     ·exact hK ρ O a W g1 g2 g3
   ·cases h
  ·cases h
 ·cases h
end
end
section
open Go.RowKit
section
variable {P:Program}
def xz (P:Program) (c:Code) (s:Sg) (x:Exit) (s' : Sg):Prop :=
 ∀ (ρ:A8) (O:Nat→Prop) (a:Act) (W:World) (Q:Exit→Act→World→Prop),HConc ρ O s.H W→TConc ρ O s.T a W →
  (∀ ρ' O' a' W',HConc ρ' O' s'.H W' → TConc ρ' O' s'.T a' W' → Ext ρ O s.H W ρ' O' s'.H W' → Q x a' W')→c.wp P Q a W
theorem Vy {c:Code} {f:Sg→List Value→EcR} (hf:∀ s orc x s' orc' ob,f s orc=some (x,s',orc',ob)→J3 ob→xz P c s x s') {n:Nat} {s s' : Sg} {orc orc' : List Value} {x:Exit} {ob:List Prop} (h:DF f n s orc=some (x,s',orc',ob)) (hob:J3 ob):xz P (.loop c) s x s' := by
 intro ρ O a W Q hH hT hK
 let LI:Nat→Act→World→Prop:=fun n a W=>∃ s orc x s' orc' ob ρ O,DF f n s orc=some (x,s',orc',ob)∧J3 ob∧HConc ρ O s.H W∧TConc ρ O s.T a W∧(∀ ρ' O' a' W',HConc ρ' O' s'.H W' → TConc ρ' O' s'.T a' W' → Ext ρ O s.H W ρ' O' s'.H W' → Q x a' W')
 have least:∀ a W,(∃ n,LI n a W)→∃ n,LI n a W∧∀ m,LI m a W→n≤m:=fun a W ⟨n,hn⟩=>by
  induction n using Nat.strongRecOn with
  | _ n ih =>
   by_cases hex:∃ m,m<n∧LI m a W
   ·obtain ⟨m,hm,hl⟩:=hex;exact ih m hm hl
   ·exact ⟨n,hn,fun m hm=>Nat.le_of_not_lt fun hlt=>hex ⟨m,hlt,hm⟩⟩
 let μ:Act→World→Nat:=fun a W=>@dite Nat (∃ n,LI n a W) (Classical.propDecidable _) (fun h=>Classical.choose (least a W h)) (fun _=>0)
 have μs:∀ a W,(∃ n,LI n a W)→LI (μ a W) a W∧∀ m,LI m a W→μ a W≤m:=fun a W h=>by
  have:μ a W=Classical.choose (least a W h):=by simp only [μ];exact dif_pos h
  rw [this];exact Classical.choose_spec (least a W h)
 refine wp_loop (fun a W=>∃ n,LI n a W) μ ⟨n,s,orc,x,s',orc',ob,ρ,O,h,hob,hH,hT,hK⟩ fun a W hI=>?_
 obtain ⟨h1,hmin⟩:=μs a W hI
 generalize hμ:μ a W=m at h1
 cases m with
 | zero=>obtain ⟨s,orc,x,s',orc',ob,ρ,O,h,-⟩:=h1;cases h
 | succ m =>
  obtain ⟨s,orc,x,s',orc',ob,ρ,O,h,hob,hH,hT,hK⟩:=h1
  simp only [DF] at h
  split at h
  ·next x1 s1 orc1 ob1 h2 =>
   split at h
   ·split at h
    ·next x2 s2 orc2 ob2 h3 =>
     cases h
     obtain ⟨hb1,hb2⟩:=o6.1 hob
     refine hf _ _ _ _ _ _ h2 hb1 ρ O a W _ hH hT fun ρ' O' a' W' hH' hT' hE=>?_
     have hl:LI m a' W' := ⟨s1,orc1,x,s',orc',ob2,ρ',O',h3,hb2,hH',hT',fun ρ'' O'' a'' W'' h4 h5 h6=>hK ρ'' O'' a'' W'' h4 h5 (hE.trans h6 hH)⟩
     exact ⟨⟨m,hl⟩,by have:=(μs a' W' ⟨m,hl⟩).2 m hl;omega⟩
    ·cases h
   ·next hne =>
    cases h
    refine hf _ _ _ _ _ _ h2 hob ρ O a W _ hH hT fun ρ' O' a' W' hH' hT' hE=>?_
    have:=hK ρ' O' a' W' hH' hT' hE
    cases x <;> first | exact this | exact absurd rfl hne
  ·cases h
theorem GX {T:List Value} {c:Operand} {b:Bool} (h:∀ ρ O W c',Rp ρ O W (eo T c) c' → c' = .bool b):Finer T (WF T c b):=by
 cases c with
 | tmp t =>
  cases ht:T[t]? with
  | none =>
   have:T.set t (vD b)=T:=List.set_eq_of_length_le (by simpa using ht)
   show Finer T (T.set t (vD b))
   rw [this];exact Finer.refl T
  | some u =>
   refine Ag ht fun ρ O W c' hr=>h ρ O W c' ?_
   show Rp ρ O W ((T[t]?).getD gN) c'
   rw [ht];exact hr
 | const v=>exact Finer.refl T
 | global g=>exact Finer.refl T
 | func f=>exact Finer.refl T
theorem I1 (hm:P.follows .mixedOrders=true) {ext:List FuncId} {call:Z5} (hcall:cz P call) {fuel:Nat}:∀ (c:Code) {s s' : Sg} {orc orc' : List Value} {x:Exit} {ob:List Prop},O1 P ext call fuel c s orc=some (x,s',orc',ob)→J3 ob→xz P c s x s'
 | .skip,s,s',orc,orc',x,ob,h,_=>by
  simp only [O1,Option.some.injEq,Prod.mk.injEq] at h
  obtain ⟨rfl,rfl,-,-⟩:=h
  exact fun ρ O a W Q hH hT hK=>wp_skip (hK ρ O a W hH hT (Ext.refl _ _ _ _))
 | .region id ops draw,s,s',orc,orc',x,ob,h,hob=>by
  simp only [O1] at h
  split at h
  ·obtain ⟨r,hr,he⟩:=Option.map_eq_some_iff.1 h
   cases he
   exact fun ρ O a W Q hH hT hK=>wp_region_list (by have:=EM hcall hr hob hH hT hK;rwa [Array.toArray_toList] at this)
  ·split at h
   ·split at h
    ·next hd =>
     cases h
     exact fun ρ O a W Q hH hT hK=>Xf hob.1 hd hH hT (hK)
    ·cases h
   ·split at h
    ·next hac =>
     split at h
     ·next hle =>
      obtain ⟨r,hr,he⟩:=Option.map_eq_some_iff.1 h
      cases he
      exact fun ρ O a W Q hH hT hK=>by have:=Ri (id:=id) hcall hm hac hle hr hob hH hT hK;rwa [Array.toArray_toList] at this
     obtain ⟨r,hr,he⟩:=Option.map_eq_some_iff.1 h
     cases he
     exact fun ρ O a W Q hH hT hK=>by have:=Vn (id:=id) hcall hm hac hr hob hH hT hK;rwa [Array.toArray_toList] at this
    ·cases h
 | .seq c d,s,s',orc,orc',x,ob,h,hob=>by
  simp only [O1] at h
  split at h
  ·next x1 s1 orc1 ob1 h1 =>
   split at h
   ·split at h
    ·next x2 s2 orc2 ob2 h2 =>
     cases h
     obtain ⟨hb1,hb2⟩:=o6.1 hob
     refine fun ρ O a W Q hH hT hK=>wp_seq (I1 hm hcall c h1 hb1 ρ O a W _ hH hT fun ρ' O' a' W' hH' hT' hE=>?_)
     exact I1 hm hcall d h2 hb2 ρ' O' a' W' Q hH' hT' fun ρ'' O'' a'' W'' h3 h4 h5=>hK ρ'' O'' a'' W'' h3 h4 (hE.trans h5 hH)
    ·cases h
   ·next hne =>
    cases h
    refine fun ρ O a W Q hH hT hK=>wp_seq (I1 hm hcall c h1 hob ρ O a W _ hH hT fun ρ' O' a' W' hH' hT' hE=>?_)
    have:=hK ρ' O' a' W' hH' hT' hE
    cases x <;> first | exact this | exact absurd rfl hne
  ·cases h
 | .cond e c d,s,s',orc,orc',x,ob,h,hob=>by
  simp only [O1] at h
  split at h
  ·next b orc1 ob1 hd =>
   split at h
   ·next x2 s2 orc2 ob2 h2 =>
    cases h
    obtain ⟨hb1,hb2⟩:=o6.1 hob
    intro ρ O a W Q hH hT hK
    have hb:=kg hd hb1 (EZ hT e)
    have hfin:Finer s.T (WF s.T e b):=GX fun ρ O W c' hr=>kg hd hb1 hr
    have hT' := hfin.conc hT
    cases b with
    | true=>exact wp_cond_true hb (I1 hm hcall c h2 hb2 ρ O a W Q hH hT' hK)
    | false=>exact wp_cond_false hb (I1 hm hcall d h2 hb2 ρ O a W Q hH hT' hK)
   ·cases h
  ·cases h
 | .block id c,s,s',orc,orc',x,ob,h,hob=>by
  simp only [O1] at h
  split at h
  ·next x1 r h1 =>
   obtain ⟨s1,orc1,ob1⟩:=r
   split at h
   ·next id' =>
    cases h
    refine fun ρ O a W Q hH hT hK=>wp_block (I1 hm hcall c h1 hob ρ O a W _ hH hT fun ρ' O' a' W' hH' hT' hE=>?_)
    have:=hK ρ' O' a' W' hH' hT' hE
    simp only [Exit.inBlock]
    split
    ·next e=>rw [if_pos e] at this;exact this
    ·next e=>rw [if_neg e] at this;exact this
   ·next hne =>
    cases h
    refine fun ρ O a W Q hH hT hK=>wp_block (I1 hm hcall c h1 hob ρ O a W _ hH hT fun ρ' O' a' W' hH' hT' hE=>?_)
    have:=hK ρ' O' a' W' hH' hT' hE
    cases x <;> first | exact this | exact absurd rfl (hne _)
  ·cases h
 | .loop c,s,s',orc,orc',x,ob,h,hob=>by
  simp only [O1] at h
  split at h
  ·split at h
   ·next im keep x1 s1 hd =>
    split at h
    ·next s0 hc =>
     cases h
     obtain ⟨⟨n,hL⟩,-⟩:=hob
     intro ρ O a W Q hH hT hK
     obtain ⟨hc1,hc2,-⟩:=az hc hH hT
     refine wp_loop_rounds n (hL (jH ρ im) O a W Q hc1 hc2 fun ρ' O' a' W' h1 h2 h3=>?_)
     obtain ⟨ρ'',h4,h5,h6,-⟩:=BQ hc hH hT h1 h2 h3
     exact hK ρ'' O' a' W' h4 h5 h6
    ·cases h
   ·cases h
  ·split at h
   ·next K im keep x1 s1 hd =>
    split at h
    ·next s0 hc =>
     cases h
     obtain ⟨⟨n,hL⟩,-⟩:=hob
     intro ρ O a W Q hH hT hK
     obtain ⟨hc1,hc2,-⟩:=az hc hH hT
     refine wp_loop_rounds n (hL (jH ρ im) O a W Q hc1 hc2 fun ρ' O' a' W' h1 h2 h3 h3' => ?_)
     obtain ⟨ρ'',h4,h5,h6⟩:=Tx hc hH hT h1 h2 h3 h3'
     exact hK ρ'' O' a' W' h4 h5 h6
    ·cases h
   ·cases h
  ·exact Vy (fun s orc x s' orc' ob h hob=>I1 hm hcall c h hob) h hob
 | .exit id,s,s',orc,orc',x,ob,h,_=>by
  simp only [O1,Option.some.injEq,Prod.mk.injEq] at h
  obtain ⟨rfl,rfl,-,-⟩:=h
  exact fun ρ O a W Q hH hT hK=>wp_exit (hK ρ O a W hH hT (Ext.refl _ _ _ _))
 | .ret,s,s',orc,orc',x,ob,h,_=>by
  simp only [O1,Option.some.injEq,Prod.mk.injEq] at h
  obtain ⟨rfl,rfl,-,-⟩:=h
  exact fun ρ O a W Q hH hT hK=>wp_ret (hK ρ O a W hH hT (Ext.refl _ _ _ _))
 | .rangeFunc ..,_,_,_,_,_,_,h,_=>by simp [O1] at h
 | .scope _,_,_,_,_,_,_,h,_=>by simp [O1] at h
 | .label _,_,_,_,_,_,_,h,_=>by simp [O1] at h
 | .goto l,s,s',orc,orc',x,ob,h,_=>by
  simp only [O1,Option.some.injEq,Prod.mk.injEq] at h
  obtain ⟨rfl,rfl,-,-⟩:=h
  exact fun ρ O a W Q hH hT hK=>wp_goto (hK ρ O a W hH hT (Ext.refl _ _ _ _))
 | .refuse _,_,_,_,_,_,_,h,_=>by simp [O1] at h
theorem Nj {n:Nat} {v:Value} {im keep:List Nat} {x:Exit} {s' : Sg} (h:QM n v=some (im,keep,x,s')):(∃ k,x = .exit k)∨x = .ret:=by
 unfold QM at h
 split at h
 ·split at h
  ·split at h
   ·next z _ _ _ _ _ _ _=>cases h;unfold a2w;split;exact .inl ⟨_,rfl⟩;exact .inr rfl
   ·cases h
  ·cases h
 ·cases h
theorem KG (hm:P.follows .mixedOrders=true) {ext:List FuncId} {call:Z5} (hcall:cz P call) {fuel l:Nat} {r:Code}:∀ (c:Code) {s s' : Sg} {orc orc' : List Value} {x:Exit} {ob:List Prop},lbl c=some (l,r)→Vf P ext call fuel c s orc=some (x,s',orc',ob)→J3 ob →
  ((∃ k,x = .exit k)∨x = .ret)∧∀ (ρ:A8) (O:Nat→Prop) (a:Act) (W:World) (Q:Exit→Act→World→Prop),HConc ρ O s.H W→TConc ρ O s.T a W→(∀ ρ' O' a' W',HConc ρ' O' s'.H W' → TConc ρ' O' s'.T a' W' → Ext ρ O s.H W ρ' O' s'.H W' → Q x a' W')→c.wp P (Exit.jump l (fun a w=>∃ n,pg P r l Q n a w) Q) a W
 | .seq a b,s,s',orc,orc',x,ob,hl,h,hob=>by
  unfold lbl at hl
  unfold Vf at h
  split at hl
  ·next l' =>
   cases hl
   simp only at h
   split at h
   ·split at h
    ·next im keep x1 s1 hd =>
     split at h
     ·next s0 hc =>
      cases h
      obtain ⟨⟨n,hL⟩,-⟩:=hob
      refine ⟨Nj hd,fun ρ O a W Q hH hT hK=>?_⟩
      obtain ⟨hc1,hc2,-⟩:=az hc hH hT
      have hj:=hL (jH ρ im) O a W Q hc1 hc2 fun ρ' O' a' W' h1 h2 h3=>by
       obtain ⟨ρ'',h4,h5,h6,-⟩:=BQ hc hH hT h1 h2 h3
       exact hK ρ'' O' a' W' h4 h5 h6
      refine wp_seq (wp_label ?_)
      cases n with
      | zero=>exact hj.elim
      | succ n =>
       refine wp_mono (Q:=Exit.jump l (pg P r l Q n) Q) hj fun e a1 w1 he=>?_
       cases e with
       | goto l' => exact ⟨he.1,n,he.2⟩
       | _=>exact he
     ·cases h
    ·cases h
   ·cases h
  ·next hne =>
   split at hl
   ·next l' r' hb =>
    split at hl
    ·cases hl
     split at h
     ·exact absurd rfl (hne _)
     ·split at h
      ·next x1 s1 orc1 ob1 h1 =>
       split at h
       ·split at h
        ·next x2 s2 orc2 ob2 h2 =>
         cases h
         obtain ⟨hb1,hb2⟩:=o6.1 hob
         obtain ⟨hx,hgo⟩:=KG hm hcall b hb h2 hb2
         refine ⟨hx,fun ρ O a W Q hH hT hK=>wp_seq (I1 hm hcall _ h1 hb1 ρ O a W _ hH hT fun ρ' O' a' W' hH' hT' hE=>?_)⟩
         exact hgo ρ' O' a' W' Q hH' hT' fun ρ'' O'' a'' W'' h3 h4 h5=>hK ρ'' O'' a'' W'' h3 h4 (hE.trans h5 hH)
        ·cases h
       ·cases h
      ·cases h
    ·cases hl
   ·cases hl
 | .skip,_,_,_,_,_,_,h,_,_ | .region ..,_,_,_,_,_,_,h,_,_ | .cond ..,_,_,_,_,_,_,h,_,_ | .block ..,_,_,_,_,_,_,h,_,_ | .loop ..,_,_,_,_,_,_,h,_,_ | .rangeFunc ..,_,_,_,_,_,_,h,_,_ | .exit _,_,_,_,_,_,_,h,_,_ | .scope _,_,_,_,_,_,_,h,_,_ | .label _,_,_,_,_,_,_,h,_,_ | .goto _,_,_,_,_,_,_,h,_,_ | .ret,_,_,_,_,_,_,h,_,_ | .refuse _,_,_,_,_,_,_,h,_,_=>by simp [lbl] at h
theorem MB (hm:P.follows .mixedOrders=true) {ext:List FuncId} {call:Z5} (hcall:cz P call) {fuel:Nat} {c:Code} {s s' : Sg} {orc orc' : List Value} {x:Exit} {ob:List Prop} (h:IX P ext call fuel c s orc=some (x,s',orc',ob)) (hob:J3 ob):xz P c s x s' := by
 unfold IX at h
 split at h
 ·next a b =>
  split at h
  ·next p hl =>
   obtain ⟨l,r⟩:=p
   split at h
   ·next x1 s1 orc1 ob1 h1 =>
    split at h
    ·split at h
     ·next x2 s2 orc2 ob2 h2 =>
      cases h
      obtain ⟨hb1,hb2⟩:=o6.1 hob
      obtain ⟨-,hgo⟩:=KG hm hcall b hl h2 hb2
      refine fun ρ O a W Q hH hT hK=>wp_seq (I1 hm hcall _ h1 hb1 ρ O a W _ hH hT fun ρ' O' a' W' hH' hT' hE=>?_)
      exact lG (xN b hl) (hgo ρ' O' a' W' Q hH' hT' fun ρ'' O'' a'' W'' h3 h4 h5=>hK ρ'' O'' a'' W'' h3 h4 (hE.trans h5 hH))
     ·cases h
    ·cases h
   ·cases h
  ·cases h
 ·exact I1 hm hcall _ h hob
theorem Io {ρ:A8} {O:Nat→Prop} {W:World} {t:TypeId} {v u c:Value} {H:Nat→Option Blk} {orc orc' : List Value} {rd:List Nat} {ob:List Prop} (h:yG P t v H orc=some (u,rd,orc',ob)) (hob:J3 ob) (hr:Rp ρ O W v c) (hH:∀ i,HAt ρ O W i (H i)) :
  ∃ a c',c = .pointer (some a)∧(loadVar t a).run P W = .ok c' W∧Rp ρ O W u c' := by
 have:=Ai (x:=.tmp 0) (e:=fun _=>v) h hob ρ O W { dst:=none,op:=.load t (.tmp 0),type:=0,pos:="",after:=#[],guard:=none } (fun _=>c) rfl (fun _ _=>hr) (fun i _=>hH i)
 obtain ⟨c',hrun,hu⟩:=this
 have hp:∃ a,c = .pointer (some a):=by
  match c,hrun with
  | .pointer (some a),_=>exact ⟨a,rfl⟩
  | .pointer none,h | .bool _,h | .int _ _,h | .float _ _,h | .complex _ _ _,h | .string _,h | .slice _ _ _,h | .map _,h | .chan _,h | .func _ _ _,h | .nilFunc,h | .iface _ _,h | .nilIface,h | .agg _,h | .tuple _,h=>simp [execOp,Instr.loadAt,Instr.sureAddr,Sem.run_bind] at h
 obtain ⟨a,rfl⟩:=hp
 refine ⟨a,c',rfl,?_,hu⟩
 simp only [execOp,Instr.loadAt,Instr.sureAddr,Sem.run_bind,Sem.run_pure,Result.andThen_ok] at hrun
 cases hl:(loadVar t a).run P W with
 | ok x w=>rw [hl] at hrun;simp only [Result.andThen_ok,Sem.run_pure,Result.ok.injEq,Next.value.injEq] at hrun;rw [hrun.1,hrun.2]
 | halt x w=>rw [hl] at hrun;simp at hrun
def Ya (tmps:Array Value):ResultVar→Sem Value
 | .tmp t=>pure (tmps.getD t undef)
 | .cell a t=>do loadVar t (← asAddr (tmps.getD a undef))
theorem zB {ρ:A8} {O:Nat→Prop} {W:World} {s:Sg} {a:Act} (hH:HConc ρ O s.H W) (hT:TConc ρ O s.T a W):∀ (l:List ResultVar) {vs:List Value},l.mapM (oN P s)=some vs→∃ cs:List Value,(l.mapM (Ya a.tmps)).run P W = .ok cs W∧AtAll (Rp ρ O W) vs.toArray cs.toArray
 | [],vs,h=>by simp at h;subst h;exact ⟨[],by simp,rfl,fun i x hx=>by simp at hx⟩
 | r::l,vs,h=>by
  simp only [List.mapM_cons,Option.bind_eq_bind,Option.pure_def] at h
  cases h1:oN P s r with
  | none=>simp [h1] at h
  | some v =>
   cases h2:l.mapM (oN P s) with
   | none=>simp [h1,h2] at h
   | some us =>
    simp [h1,h2] at h
    subst h
    obtain ⟨cs,hcs,hat⟩:=zB hH hT l h2
    have:∃ c,(Ya a.tmps r).run P W = .ok c W∧Rp ρ O W v c:=by
     cases r with
     | tmp t =>
      simp only [oN,Option.some.injEq] at h1
      subst h1
      exact ⟨_,rfl,EZ hT (.tmp t)⟩
     | cell t ty =>
      simp only [oN] at h1
      split at h1
      ·next u hu =>
       split at h1
       ·next w rd orc' ob hl =>
        split at h1
        ·next he =>
         cases h1
         have he' : ob=[]:=List.isEmpty_iff.1 he
         subst he'
         obtain ⟨c,hc,hr⟩:=hT.tm t u hu
         obtain ⟨ad,c',hc',hrun,hu'⟩:=Io hl trivial hr hH.hp
         refine ⟨c',?_,hu'⟩
         have:a.tmps.getD t undef = .pointer (some ad):=by simp [hc,hc']
         simp [Ya,this,asAddr,Sem.run_bind,hrun]
        ·cases h1
       ·cases h1
      ·cases h1
    obtain ⟨c,hc,hr⟩:=this
    refine ⟨c::cs,by simp [List.mapM_cons,hc,hcs],by have:=hat.1;simpa using this,fun i x hx=>?_⟩
    cases i with
    | zero=>simp at hx;subst hx;exact ⟨c,by simp,hr⟩
    | succ i =>
     obtain ⟨y,hy,hr'⟩:=hat.2 i x (by simpa using hx)
     exact ⟨y,by simpa using hy,hr'⟩
theorem Ep {ρ:A8} {O:Nat→Prop} {W:World} {s:Sg} {a:Act} {fn:Func} {v:Value} (hH:HConc ρ O s.H W) (hT:TConc ρ O s.T a W) (h:xE P fn s=some v):∃ c,(results fn a.tmps).run P W = .ok c W∧Rp ρ O W v c:=by
 have key:∀ {vs:List Value},fn.results.toList.mapM (oN P s)=some vs→∃ cs:List Value,(results fn a.tmps).run P W = .ok (if h:cs.toArray.size=1 then cs.toArray[0] else .tuple cs.toArray) W∧AtAll (Rp ρ O W) vs.toArray cs.toArray:=fun {vs} hv=>by
  obtain ⟨cs,hcs,hat⟩:=zB hH hT _ hv
  refine ⟨cs,?_,hat⟩
  have he:results fn a.tmps=(do let vs ← fn.results.mapM (Ya a.tmps);pure (if h:vs.size=1 then vs[0] else .tuple vs)):=by
   unfold results
   congr 1
  rw [he,Array.mapM_eq_mapM_toList]
  simp [Sem.run_bind,hcs]
 unfold xE at h
 split at h
 ·next u hv =>
  cases h
  obtain ⟨cs,hcs,hat⟩:=key hv
  match cs,hat,hcs with
  | [c],hat,hcs =>
   obtain ⟨y,hy,hr⟩:=hat.2 0 v (by simp)
   simp at hy;subst hy
   exact ⟨c,by simpa using hcs,hr⟩
  | [],hat,_=>have:=hat.1;simp at this
  | _::_::_,hat,_=>have:=hat.1;simp at this
 ·next vs hne hv =>
  cases h
  obtain ⟨cs,hcs,hat⟩:=key hv
  have h1:¬ cs.toArray.size=1:=fun e=>by
   have:=hat.1
   rw [e] at this
   match vs,this,hne with
   | [u],_,hne=>exact hne u rfl
   | [],this,_=>simp at this
   | _::_::_,this,_=>simp at this
  rw [dif_neg h1] at hcs
  exact ⟨_,hcs,G8.2 ⟨_,rfl,hat⟩⟩
 ·cases h
theorem bg (hm:P.follows .mixedOrders=true) {ext:List FuncId} {fuel:Nat}:∀ n,cz P (zn P ext fuel n)
 | 0=>fun g args H orc r H' orc' ob h=>by simp [zn] at h
 | n+1=>fun g args H orc r H' orc' ob h hob ρ O W vs hH hat=>by
  simp only [zn] at h
  split at h
  ·next fn hfn =>
   split at h
   ·next c hc =>
    split at h
    ·next x s orc1 ob1 hev =>
     have hsz:vs.size=args.length:=by simpa using hat.1
     have hT:TConc ρ O (args++List.replicate (fn.ntmps - args.length) (.tuple #[])) { tmps:=vs++Array.replicate (fn.ntmps - vs.size) undef,defers:=[] } W:=by
      refine ⟨rfl,by simp [hsz],fun t v hv=>?_⟩
      by_cases ht:t<args.length
      ·rw [List.getElem?_append_left ht] at hv
       obtain ⟨c,hc,hr⟩:=hat.2 t v (by simpa using hv)
       exact ⟨c,by simp only [Array.getElem?_append_left (show t<vs.size by omega)];exact hc,hr⟩
      ·rw [List.getElem?_append_right (by omega),List.getElem?_replicate] at hv
       split at hv
       ·next hlt =>
        cases hv
        refine ⟨undef,?_,G8.2 ⟨#[],rfl,rfl,fun i x hx=>by simp at hx⟩⟩
        simp only [Array.getElem?_append_right (show vs.size≤t by omega),hsz]
        simp [hlt]
       ·cases hv
     have fin:(∃ v,xE P fn s=some v∧v=r∧s.H=H' ∧ ob1=ob)→(x = .normal∨x = .ret)→Calls P g vs W fun e W' => ∃ c ρ' O',e = .returned c∧Rp ρ' O' W' r c∧HConc ρ' O' H' W' ∧ Ext ρ O H W ρ' O' H' W' := fun ⟨v,hv,hvr,hs,hobe⟩ hx=>by
      subst hvr hs hobe
      refine calls_of_wp hfn hc (MB hm (bg hm n) hev hob ρ O _ W _ hH hT fun ρ' O' a' W' hH' hT' hE=>?_)
      obtain ⟨c',hrun,hr⟩:=Ep hH' hT' hv
      rcases hx with rfl | rfl <;> exact ⟨hT'.df,c',hrun,c',ρ',O',rfl,hr,hH',hE⟩
     split at h
     ·split at h
      ·next v hv=>cases h;exact fin ⟨_,hv,rfl,rfl,rfl⟩ (.inl rfl)
      ·cases h
     ·split at h
      ·next v hv=>cases h;exact fin ⟨_,hv,rfl,rfl,rfl⟩ (.inr rfl)
      ·cases h
     ·cases h
    ·cases h
   ·cases h
  ·cases h
def Qy (H:Nat→Option Blk):Value→Option (Value×List Nat×List Prop)
 | .tuple xs=>(iD (ou H) xs.toList).map fun r=>(.tuple r.1.toArray,r.2)
 | v=>ou H v
theorem Uh {ρ:A8} {O:Nat→Prop} {W:World} {H:Nat→Option Blk} {v v' c:Value} {is:List Nat} {ob:List Prop} (h:Qy H v=some (v',is,ob)) (hob:J3 ob) (hr:Rp ρ O W v c) (hh:∀ i∈is,HAt ρ O W i (H i)):Rp nowhere (N9 ρ O is) W v' c:=by
 unfold Qy at h
 split at h
 ·next xs =>
  obtain ⟨r,hr',he⟩:=Option.map_eq_some_iff.1 h
  obtain ⟨al,js,ps⟩:=r
  cases he
  obtain ⟨ys,rfl,ha⟩:=G8.1 hr
  have:=bW (H:=H) (ys:=ys.toList) (fun v v' c is ob=>gV) hr' hob (by simpa using ha) hh
  exact G8.2 ⟨ys,rfl,by simpa using this⟩
 ·exact gV h hob hr hh
def Yz (P:Program) (ext:List FuncId) (fuel n:Nat) (g:FuncId) (args orc:List Value):Option (Value×Prop) :=
 match zn P ext fuel n g args [] orc with
 | some (r,H,[],ob)=>match Qy (look H) r with
  | some (r',is,ps)=>if is.all (fun i=>(look H i).isSome) then some (r',J3 (ob++ps)) else none
  | none=>none
 | _=>none
theorem d9 (hm:P.follows .mixedOrders=true) {ext:List FuncId} {fuel n:Nat} {g:FuncId} {args orc:List Value} {r:Value} {A:Prop} (hA:A) (h:Yz P ext fuel n g args orc=some (r,A)):AC P g args r:=by
 unfold Yz at h
 split at h
 ·next r0 H ob hev =>
  split at h
  ·next r' is ps hl =>
   split at h
   ·next his =>
    cases h
    obtain ⟨hb1,hb2⟩:=o6.1 hA
    intro O W vs hlow hat
    have hH:HConc nowhere O [] W:=⟨hlow,fun _ _=>rfl,fun i=>by simp [look,HAt],fun i j b b' g k k' h1=>by simp [look] at h1⟩
    refine (bg hm n _ _ _ _ _ _ _ _ hev hb1 nowhere O W vs hH hat).mono ?_
    rintro e W' ⟨c,ρ',O',rfl,hr,hH',hE⟩
    have h1:=Uh hl hb2 hr (fun i _=>hH'.hp i)
    refine ⟨c,rfl,h1.mono ⟨Nat.le_refl _,fun g _ hn=>⟨fun hO=>hn ⟨hE.keepO g hO fun i b hb=>by simp [look] at hb,fun i hi k hk=>?_⟩,rfl⟩,Shp.of_same fun _ _=>rfl⟩ (Sub.refl _),⟨hE.str.2.1,hE.str.1,hE.str.2.2,hE.still.size,fun g hg=>hE.blk g hg fun i b hb=>by simp [look] at hb⟩⟩
    rcases hE.new i _ hk with h2 | ⟨-,h2⟩
    ·cases h2
    ·have:=hlow g hO
     rcases h2 with h2 | ⟨j,b,k,h2,-⟩
     ·simp at h2;omega
     ·simp [look] at h2
   ·cases h
  ·cases h
 ·cases h
end
end
section
open Go.ChangeShapes Go.WideShapes Go.ChangeAt Go.RowKit
abbrev Bs:Type:=Option (Option IntKind)
def Ck:Nat→Type
 | 0=>Bs
 | n+1=>Sum Bs (List (Ck n))
def Ck.base:(n:Nat)→Bs→Ck n
 | 0,b=>b
 | _+1,b=>Sum.inl b
def Ck.int {n:Nat} (k:IntKind):Ck n:=Ck.base n (some (some k))
def Ck.bool {n:Nat}:Ck n:=Ck.base n (some none)
def Ck.str {n:Nat}:Ck n:=Ck.base n none
def Ck.row {n:Nat} (e:List (Ck n)):Ck (n+1):=Sum.inr e
def Ut:Bs→Value→Prop
 | some (some k),v=>∃ q,v = .int k q∧(Lit.int k q).wf=true
 | some none,v=>∃ b,v = .bool b
 | none,v=>∃ s,v = .string s∧s.size≤maxLen
def a0F {α β:Type} (R:α→β→Prop):List α→List β→Prop
 | [],vs=>vs=[]
 | c::l,vs=>∃ v r,vs=v::r∧R c v∧a0F R l r
def HV (W:World):(n:Nat)→Ck n→Value→Prop
 | 0,b,v=>Ut b v
 | n+1,c,v =>
  match (show Sum Bs (List (Ck n)) from c) with
  | Sum.inl b=>Ut b v
  | Sum.inr e=>∃ (p:Option Addr) (len cap:Nat),v = .slice p len cap∧len≤cap∧cap≤maxLen∧(p=none→cap=0) ∧
   ∀ a,p=some a→∀ i,i<cap→∃ vs:List Value,vs.length=e.length∧(∀ j,j<e.length→W.cell? (a.add (i * e.length+j))=vs[j]?)∧a0F (HV W n) e vs
def lV (W:World) {n:Nat} (c:Ck n) (v:Value):Prop:=HV W n c v
def ReadL (W:World) {n:Nat} (l:List (Ck n)) (vs:List Value):Prop:=a0F (HV W n) l vs
theorem mX {W:World} {n:Nat} {vs:List Value}:ReadL W ([]:List (Ck n)) vs↔vs=[]:=Iff.rfl
theorem gy {W:World} {n:Nat} {c:Ck n} {l:List (Ck n)} {vs:List Value}:ReadL W (c::l) vs↔∃ v r,vs=v::r∧lV W c v∧ReadL W l r:=Iff.rfl
theorem uG {W:World} {n:Nat} {b:Bs} {v:Value}:lV W (Ck.base n b) v↔Ut b v:=by cases n <;> exact Iff.rfl
theorem xI {W:World} {n:Nat} {k:IntKind} {v:Value}:lV W (Ck.int k:Ck n) v↔∃ q,v = .int k q∧(Lit.int k q).wf=true:=uG
theorem sK {W:World} {n:Nat} {v:Value}:lV W (Ck.bool:Ck n) v↔∃ b,v = .bool b:=uG
theorem yC {W:World} {n:Nat} {v:Value}:lV W (Ck.str:Ck n) v↔∃ s,v = .string s∧s.size≤maxLen:=uG
theorem wI {W:World} {n:Nat} {e:List (Ck n)} {v:Value}:lV W (Ck.row e) v↔∃ (p:Option Addr) (len cap:Nat),v = .slice p len cap∧len≤cap∧cap≤maxLen∧(p=none→cap=0) ∧
   ∀ a,p=some a→∀ i,i<cap→∃ vs:List Value,vs.length=e.length∧(∀ j,j<e.length→W.cell? (a.add (i * e.length+j))=vs[j]?)∧ReadL W e vs:=Iff.rfl
theorem lU {W:World} {n:Nat} {c:Ck n} {v:Value} (h:lV W c v):ReadL W [c] [v]:=⟨v,[],rfl,h,rfl⟩
theorem ReadL.append {W:World} {n:Nat}:∀ {l k:List (Ck n)} {vs us:List Value},ReadL W l vs→ReadL W k us→ReadL W (l++k) (vs++us)
 | [],_,_,_,h,h' => by rw [mX] at h;subst h;exact h'
 | _::_,_,_,_,h,h' => by
  obtain ⟨v,r,rfl,hv,hr⟩:=gy.1 h
  exact gy.2 ⟨v,_,rfl,hv,ReadL.append hr h'⟩
def xY {α:Type} (P:Program) (sh:TypeId→Option (List α)):List Field→Nat→Option (List α)
 | [],_=>some []
 | f::r,o=>if f.offset=o then (sh f.type).bind fun l=>if P.cellsOf f.type=l.length then (xY P sh r (o+l.length)).map (l++·) else none else none
def rowOf (sh:(n:Nat)→Option (List (Ck n))) (cells:Nat):(n:Nat)→Option (List (Ck n))
 | 0=>none
 | n+1=>(sh n).bind fun l=>if cells=l.length then some [Ck.row l] else none
def shapeOf (P:Program):Nat→(n:Nat)→TypeId→Option (List (Ck n))
 | 0,_,_=>none
 | f+1,n,t =>
  match P.underlying t with
  | some .bool=>some [Ck.bool]
  | some (.int k)=>some [Ck.int k]
  | some .string=>some [Ck.str]
  | some (.slice e)=>rowOf (fun m=>shapeOf P f m e) (P.cellsOf e) n
  | some (.struct fs)=>(xY P (shapeOf P f n) fs.toList 0).bind fun l=>if P.cellsOf t=l.length then some l else none
  | _=>none
section
variable {H:Type} {enc:TypeId×Value→H} {P:Program} {w:World} {base:Nat} {held:Bool}
theorem qH {g n m:Nat} (ih:∀ {t:TypeId} {cs:List Value} {x:DataW H×List MemPlace} {l:List (Ck n)},shapeOf P g n t=some l→DataW.trod enc P w base (fun _=>true) held m t cs=some x→ReadL w l cs) :
  ∀ {fs:List Field} {o:Nat} {l:List (Ck n)} {cs:List Value},xY P (shapeOf P g n) fs o=some l→o+l.length≤cs.length →
   (∀ f∈fs,∃ x,DataW.trod enc P w base (fun _=>true) held m f.type ((cs.drop f.offset).take (P.cellsOf f.type))=some x)→ReadL w l ((cs.drop o).take l.length)
 | [],o,l,cs,h,_,_=>by
  simp only [xY,Option.some.injEq] at h
  subst h
  exact mX.2 (by simp)
 | f::r,o,l,cs,h,hlen,hf=>by
  simp only [xY] at h
  split at h
  ·rename_i ho
   subst ho
   obtain ⟨k,hk,h⟩:=Option.bind_eq_some_iff.1 h
   split at h
   ·rename_i hc
    obtain ⟨r',hr',rfl⟩:=Option.map_eq_some_iff.1 h
    obtain ⟨x,hx⟩:=hf f (by simp)
    have h1:=ih hk hx
    rw [hc] at h1
    have h2:=qH (fs:=r) ih hr' (by simp at hlen;omega) (fun g hg=>hf g (by simp [hg]))
    have:=ReadL.append h1 h2
    rw [List.length_append,List.take_add,List.drop_drop]
    exact this
   ·cases h
  ·cases h
theorem kw:∀ {g n fuel:Nat} {t:TypeId} {cs:List Value} {x:DataW H×List MemPlace} {l:List (Ck n)},shapeOf P g n t=some l→DataW.trod enc P w base (fun _=>true) held fuel t cs=some x→ReadL w l cs
 | 0,_,_,_,_,_,_,h,_=>by simp [shapeOf] at h
 | g+1,n,fuel,t,cs,x,l,h,ht=>by
  simp only [shapeOf] at h
  split at h
  ·rename_i hu
   cases h
   obtain ⟨b,rfl,_⟩:=DataW.trod_bool hu ht
   exact lU (sK.2 ⟨b,rfl⟩)
  ·rename_i k hu
   cases h
   obtain ⟨q,rfl,_,hw⟩:=DataW.trod_int hu ht
   exact lU (xI.2 ⟨q,rfl,hw⟩)
  ·rename_i hu
   cases h
   obtain ⟨s,rfl,_,hw⟩:=DataW.trod_string hu ht
   exact lU (yC.2 ⟨s,rfl,hw⟩)
  ·rename_i e hu
   cases n with
   | zero=>simp [rowOf] at h
   | succ n =>
    simp only [rowOf] at h
    obtain ⟨k,hk,h⟩:=Option.bind_eq_some_iff.1 h
    split at h
    ·rename_i hc
     cases h
     rcases Deep.open_slice hu ht with ⟨rfl,_⟩ | ⟨a,len,cap,m,n',D,Pl,rfl,_,hl,hm,hmm,_,hi⟩
     ·exact lU (wI.2 ⟨none,0,0,rfl,by omega,by omega,fun _=>rfl,fun _ h=>by cases h⟩)
     ·refine lU (wI.2 ⟨some a,len,cap,rfl,hl,hm,(fun h=>by cases h),?_⟩)
      intro _ hae i hic
      cases hae
      obtain ⟨vs,h1,h2⟩:=hi i (by rw [hmm];simpa using hic)
      rw [hc] at h1
      obtain ⟨_,hvl,hva⟩:=World.cells?_some h1
      refine ⟨vs,hvl,fun j hj=>?_,kw hk h2⟩
      rw [← hva j hj,Go.Deep.add_add]
    ·cases h
  ·rename_i fs hu
   obtain ⟨k,hk,h⟩:=Option.bind_eq_some_iff.1 h
   split at h
   ·rename_i hc
    cases h
    obtain ⟨xs,m,_,_,hlen,hxl,hf⟩:=DataW.trod_struct hu ht
    have:=qH (enc:=enc) (w:=w) (base:=base) (held:=held) (m:=m) (fun h h' => kw h h') hk (cs:=cs) (by omega) (fun f hfm=>by
     obtain ⟨i,hi,rfl⟩:=List.getElem_of_mem hfm
     have h0:i<fs.size:=by simpa using hi
     have:=hf i fs[i] (by simp [h0])
     exact ⟨xs[i]'(by omega),by simpa [hxl,h0] using this⟩)
    simpa [← hc,← hlen] using this
   ·cases h
  ·cases h
theorem iL {r:Reach} {b0 g n:Nat} {t:TypeId} {fs:Array Field} {l:List (Ck n)} {v:Value} {d:DataW H} {p:List MemPlace} (hs:P.underlying t=some (.struct fs)) (hl:shapeOf P g n t=some l)
  (hv:Value.okWide P w r b0 t v) (h:DataW.Trod enc P w base (fun _=>true) held t v d p):∃ cs,v = .agg ⟨cs⟩∧ReadL w l cs:=by
 obtain ⟨cs,rfl,_⟩:=okWide_struct hs hv
 obtain ⟨fuel,hf⟩:=h
 exact ⟨cs.toList,rfl,kw hl hf⟩
theorem open_row {r:Reach} {b0 g n:Nat} {t e:TypeId} {l:List (Ck n)} {v:Value} {d:DataW H} {p:List MemPlace} (hs:P.underlying t=some (.slice e)) (hl:shapeOf P g (n+1) t=some [Ck.row l])
  (hv:Value.okWide P w r b0 t v) (h:DataW.Trod enc P w base (fun _=>true) held t v d p):lV w (Ck.row l) v:=by
 obtain ⟨fuel,hf⟩:=h
 have hc:v.cells.toList=[v]:=by
  simp only [Value.okWide,hs,Cell.okWide,Cell.ok] at hv
  split at hv <;> simp_all [Value.cells]
 rw [hc] at hf
 obtain ⟨u,r',h1,h2,_⟩:=gy.1 (kw hl hf)
 cases h1
 exact h2
end
structure Sl {α:Type} (W:World) (k:Nat) (enc:α→List Value) (xs:List α) (v:Value):Prop where
 is:∃ (p:Option Addr) (cap:Nat),v = .slice p xs.length cap∧xs.length≤cap∧cap≤maxLen∧(p=none→cap=0) ∧
  (xs≠[]→∃ b o,p=some ⟨b,o,none⟩∧b<W.heap.size∧∀ i x,xs[i]? = some x→∀ j,j<k→W.cell? ⟨b,o+i * k+j,none⟩=(enc x)[j]?)
theorem Sl.kept {α:Type} {W W' : World} {k:Nat} {enc:α→List Value} {xs:List α} {v:Value} (h:Sl W k enc xs v) (hk:Below W.heap.size W W'):Sl W' k enc xs v:=by
 obtain ⟨p,cap,hv,h1,h2,h3,h4⟩:=h.is
 refine ⟨p,cap,hv,h1,h2,h3,fun hne=>?_⟩
 obtain ⟨b,o,hp,hb,hc⟩:=h4 hne
 exact ⟨b,o,hp,Nat.lt_of_lt_of_le hb hk.size,fun i x hx j hj=>(hk.cell (p:=⟨b,_,none⟩) hb).trans (hc i x hx j hj)⟩
theorem IL {W:World} {a:Addr} {v:Value} (h:W.cell? a=some v):a=⟨a.block,a.off,none⟩∧a.block<W.heap.size:=by
 obtain ⟨b,o,s⟩:=a
 simp only [World.cell?] at h
 split at h
 ·rename_i ho
  split at h
  ·cases h
  ·rename_i hs
   cases s with
   | none=>exact ⟨rfl,(Array.getElem?_eq_some_iff.1 ho).1⟩
   | some _=>simp at hs
 ·cases h
theorem Sl.of_read {α:Type} {W:World} {n:Nat} {e:List (Ck n)} {v:Value} (enc:α→List Value) (ok:α→Prop) (hne:0<e.length) (h:lV W (Ck.row e) v) (hd:∀ vs,ReadL W e vs→∃ x,vs=enc x∧ok x) :
  ∃ xs:List α,Sl W e.length enc xs v∧(∀ x∈xs,ok x)∧xs.length≤maxLen:=by
 obtain ⟨p,len,cap,rfl,h1,h2,h3,h4⟩:=wI.1 h
 cases p with
 | none =>
  have:cap=0:=h3 rfl
  have:len=0:=by omega
  subst this
  exact ⟨[],⟨none,cap,rfl,by simp,h2,h3,fun h=>absurd rfl h⟩,by simp,by simp⟩
 | some a =>
  have hx:∀ i,i<cap→∃ x:α,ok x∧∀ j,j<e.length→W.cell? (a.add (i * e.length+j))=(enc x)[j]? := fun i hi=>by
   obtain ⟨vs,hl,hc,hr⟩:=h4 a rfl i hi
   obtain ⟨x,rfl,ho⟩:=hd vs hr
   exact ⟨x,ho,hc⟩
  by_cases hl:len=0
  ·subst hl
   exact ⟨[],⟨some a,cap,rfl,by simp,h2,h3,fun h=>absurd rfl h⟩,by simp,by simp⟩
  ·have hpl:a=⟨a.block,a.off,none⟩∧a.block<W.heap.size:=by
    obtain ⟨vs,hvl,hc,_⟩:=h4 a rfl 0 (by omega)
    have h0:=hc 0 (by omega)
    rw [List.getElem?_eq_getElem (by omega)] at h0
    have:a.add (0 * e.length+0)=a:=by simp [Addr.add]
    rw [this] at h0
    exact IL h0
   let f:Nat→α:=fun i=>if h:i<cap then Classical.choose (hx i h) else Classical.choose (hx 0 (by omega))
   have hf:∀ i,i<cap→ok (f i)∧∀ j,j<e.length→W.cell? (a.add (i * e.length+j))=(enc (f i))[j]? := fun i hi=>by
    simp only [f,hi,dif_pos];exact Classical.choose_spec (hx i hi)
   refine ⟨(List.range len).map f,⟨some a,cap,by simp,by simp;omega,h2,h3,fun _=>⟨a.block,a.off,by rw [← hpl.1],hpl.2,fun i x hix j hj=>?_⟩⟩,?_,by simp;omega⟩
   ·simp only [List.getElem?_map,Option.map_eq_some_iff] at hix
    obtain ⟨i',hi',rfl⟩:=hix
    obtain ⟨hlt,rfl⟩:=List.getElem?_eq_some_iff.1 hi'
    simp only [List.length_range,List.getElem_range] at hlt ⊢
    rw [← (hf i (by omega)).2 j hj]
    congr 1
    rw [hpl.1]
    unfold Addr.add
    split
    ·rename_i h0;rw [Nat.add_assoc,h0];rfl
    ·simp [Nat.add_assoc]
   ·intro x hx
    obtain ⟨i,hi,rfl⟩:=List.mem_map.1 hx
    exact (hf i (by have:=List.mem_range.1 hi;omega)).1
end
section
open Go.ChangeShapes Go.WideShapes Go.ChangeAt Go.RowKit
structure Enc {α:Type} (k:Nat) (enc:α→List Value):Prop where
 len:∀ x,(enc x).length=k
 one:∀ x,∀ c∈enc x,c.oneCell' = true
theorem X4 {α:Type} {k:Nat} {enc:α→List Value} (h:Enc k enc) (xs:List α):(xs.flatMap enc).length=xs.length * k:=by
 induction xs with
 | nil=>simp
 | cons x xs ih=>simp [ih,h.len,Nat.add_mul,Nat.add_comm]
theorem flat_get {α:Type} {k:Nat} {enc:α→List Value} (h:Enc k enc):∀ (xs:List α) (i j:Nat) (x:α),xs[i]? = some x→j<k→(xs.flatMap enc)[i * k+j]? = (enc x)[j]?
 | [],i,j,x,hx,_=>by simp at hx
 | y::ys,0,j,x,hx,hj=>by
  simp only [List.getElem?_cons_zero,Option.some.injEq] at hx
  subst hx
  rw [List.flatMap_cons,Nat.zero_mul,Nat.zero_add,List.getElem?_append_left (by rw [h.len];exact hj)]
 | y::ys,i+1,j,x,hx,hj=>by
  simp only [List.getElem?_cons_succ] at hx
  have:=flat_get h ys i j x hx hj
  rw [List.flatMap_cons,List.getElem?_append_right (by rw [h.len,Nat.add_mul];omega),h.len,← this]
  congr 1
  rw [Nat.add_mul];omega
theorem Sl.drop {α:Type} {W:World} {k:Nat} {enc:α→List Value} {xs:List α} {b o n c:Nat} (i:Nat) (h:Sl W k enc xs (.slice (some ⟨b,o,none⟩) n c)) (hi:i≤xs.length) {a:Addr} (ha:i<c→a=⟨b,o+i * k,none⟩) {n' c' : Nat} (hn:n' = n - i) (hc' : c' = c - i) :
  Sl W k enc (xs.drop i) (.slice (some a) n' c'):=by
 obtain ⟨p,cap,hv,h1,h2,h3,h4⟩:=h.is
 cases hv
 subst hn hc'
 refine ⟨some a,c - i,by simp,by simp;omega,by omega,(fun h=>by cases h),fun hne=>?_⟩
 have hlt:i<xs.length:=by
  rcases Nat.lt_or_ge i xs.length with h | h
  ·exact h
  ·exact absurd (List.drop_eq_nil_of_le h) hne
 obtain ⟨b',o',hp,hb,hcell⟩:=h4 (by intro h;subst h;simp at hlt)
 cases hp
 refine ⟨b,o+i * k,by rw [ha (by omega)],hb,fun j x hx l hl=>?_⟩
 rw [List.getElem?_drop] at hx
 rw [← hcell (i+j) x hx l hl]
 congr 2
 rw [Nat.add_mul];omega
def Ow {α:Type} (W:World) (base:Nat) (e:TypeId) (k:Nat) (enc:α→List Value) (xs:List α) (v:Value):Prop:=W.ownsRow base e k v xs.length (xs.flatMap enc)
theorem Ow.sl {α:Type} {W:World} {base k:Nat} {e:TypeId} {enc:α→List Value} {xs:List α} {v:Value} (he:Enc k enc) (h:Ow W base e k enc xs v):Sl W k enc xs v:=by
 obtain ⟨_,⟨rfl,h0⟩ | ⟨g,cap,cur,rfl,hb,hg,hl,hm,hs,ht⟩⟩:=h
 ·have:xs=[]:=List.length_eq_zero_iff.1 h0
  subst this
  exact ⟨none,0,rfl,by simp,by simp,fun _=>rfl,fun h=>absurd rfl h⟩
 ·refine ⟨some ⟨g,0,none⟩,cap,rfl,hl,hm,(fun h=>by cases h),fun _=>⟨g,0,rfl,(Array.getElem?_eq_some_iff.1 hg).1,fun i x hx j hj=>?_⟩⟩
  have hc:W.cell? ⟨g,0+i * k+j,none⟩=cur[0+i * k+j]? := by simp [World.cell?,hg]
  have hi:i<xs.length:=(List.getElem?_eq_some_iff.1 hx).1
  have hik:i * k+j<xs.length * k:=by
   have:=Nat.mul_le_mul_right k (show i+1≤xs.length by omega)
   rw [Nat.add_mul] at this;omega
  rw [hc,← flat_get he xs i j x hx hj,← ht,List.getElem?_take_of_lt hik,Nat.zero_add]
  simp
theorem Ow.kept {α:Type} {W W' : World} {base k:Nat} {e:TypeId} {enc:α→List Value} {xs:List α} {v:Value} (h:Ow W base e k enc xs v) (hk:Below W.heap.size W W'):Ow W' base e k enc xs v:=by
 obtain ⟨h0,h1 | ⟨g,cap,cur,hv,hb,hg,hl,hm,hs,ht⟩⟩:=h
 ·exact ⟨h0,.inl h1⟩
 ·exact ⟨h0,.inr ⟨g,cap,cur,hv,hb,(hk.block g (Array.getElem?_eq_some_iff.1 hg).1).trans hg,hl,hm,hs,ht⟩⟩
theorem Ow.made {α:Type} {W:World} {base k:Nat} {e:TypeId} {enc:α→List Value} (he:Enc k enc) (xs:List α) (cells:Array Value) (hc:cells.toList=xs.flatMap enc) (hb:base≤W.heap.size) (hm:xs.length≤maxLen) {g n:Nat} (hg:W.heap.size=g) (hn:xs.length=n) :
  Ow (W.alloc (.cells cells e)) base e k enc xs (.slice (some ⟨g,0,none⟩) n n):=by
 subst hg hn
 have hl:=X4 he xs
 have hs:cells.size=xs.length * k:=by rw [← hl,← hc];simp
 exact ⟨hl,.inr ⟨W.heap.size,xs.length,cells,rfl,hb,heap_alloc_new W _,Nat.le_refl _,hm,hs,by rw [← hc,List.take_of_length_le (by simp [hs])]⟩⟩
theorem Ow.below {α:Type} {w W W' : World} {k:Nat} {e:TypeId} {enc:α→List Value} {xs:List α} {v:Value} (h:Ow W w.heap.size e k enc xs v) (hB:Below w.heap.size w W) (hg:W.grownBy W' v.ownBlock):Below w.heap.size w W' :=
 hB.grown hg hB.size (fun i e=>(World.ownsRow.lt h i e).1)
theorem Ow.lt {α:Type} {W:World} {base k:Nat} {e:TypeId} {enc:α→List Value} {xs:List α} {v:Value} (h:Ow W base e k enc xs v):∀ g,v.ownBlock=some g→base≤g∧g<W.heap.size:=World.ownsRow.lt h
theorem Ow.setCell {α:Type} {W:World} {base k:Nat} {e:TypeId} {enc:α→List Value} {xs:List α} {v:Value} (h:Ow W base e k enc xs v) {p:Addr} (hp:p.block<base) (u:Value):Ow (W.setCell p u) base e k enc xs v:=ownsRow_setCell_below h hp u
theorem a0G {P:Program} {w:World} {α:Type} {o:Oper} {a:Act} {K:Act→World→Prop} {Q:Exit→Act→World→Prop} (s x:Operand) (t:TypeId)
  (ho:o.op = .call { callee:=.builtin .append,args:=#[s,x],argTypes:=#[t,t] }) {base k:Nat} {e:TypeId} {enc:α→List Value} (z:Value) (bytes:Nat) (ht:P.underlying t=some (.slice e))
  (hinfo:(P.info? e).map (fun i=>(i.zero,i.size,i.bytes))=some (some z,k,bytes)) (hzs:z.cells.size=k) (hk:0<k) (he:Enc k enc)
  {v u:Value} {xs ys:List α} (hs:a.eval s=v) (hx:a.eval x=u) (hown:Ow w base e k enc xs v) (hu:Sl w k enc ys u)
  (hm:xs.length+ys.length≤maxLen) (hbytes:(xs.length+ys.length) * bytes≤140737488355328) (hbase:base≤w.heap.size)
  (h:∀ v' w',Ow w' base e k enc (xs++ys) v' → w.grownBy w' v.ownBlock→K (a.put o.dst v') w'):o.wp P a w K Q:=by
 obtain ⟨i,hi,hz0,hz1,hz2⟩:=info_parts hinfo
 obtain ⟨p,cap,rfl,hlc,hcm,hp,hc⟩:=hu.is
 cases p with
 | none =>
  have:cap=0:=hp rfl
  subst this
  have:ys=[]:=List.length_eq_zero_iff.1 (by omega)
  subst this
  have hrun:=run_append_owned_none (P:=P) (w:=w) base t o.type e i k ht hi v _ _ hown
  have hx' : a.eval x = .slice none 0 0:=by rw [hx];rfl
  unfold Oper.wp
  simp [execOp,ho,resolve,invoke,builtin,hs,hx',hrun,Result.andThen]
  exact h v w (by rw [List.append_nil];exact hown) ⟨rfl,rfl,rfl,Nat.le_refl _,fun _ _ _=>rfl⟩
 | some ad =>
  refine wp_append_own w s x t ho base e i z k bytes ht hi hz0 hz1 hz2 hzs hk v _ _ hs hown ad ys.length cap (ys.flatMap enc) hx (X4 he ys) ?_ ?_ hm hbytes hbase (fun v' w' h1 h2 _=>h v' w' ?_ h2)
  ·intro j c hj
   have hj' := (List.getElem?_eq_some_iff.1 hj).1
   rw [X4 he] at hj'
   have hne:ys≠[]:=by rintro rfl;simp at hj'
   obtain ⟨b,off,hab,_,hcell⟩:=hc hne
   cases hab
   have hd:j / k<ys.length:=Nat.div_lt_of_lt_mul (by rw [Nat.mul_comm];exact hj')
   have hmo:=Nat.mod_lt j hk
   have hdm:j / k * k+j % k=j:=by rw [Nat.mul_comm];exact Nat.div_add_mod j k
   have h1:=hcell (j / k) ys[j / k] (List.getElem?_eq_getElem hd) (j % k) hmo
   have h2:=flat_get he ys (j / k) (j % k) ys[j / k] (List.getElem?_eq_getElem hd) hmo
   rw [hdm,hj] at h2
   rw [← h2,Nat.add_assoc,hdm] at h1
   rw [← h1]
   congr 1
   unfold Addr.add
   split
   ·rename_i h0;rw [h0];rfl
   ·rfl
  ·intro c hc'
   obtain ⟨y,_,hy⟩:=List.mem_flatMap.1 hc'
   exact he.one y c hy
  ·unfold Ow;rw [List.length_append,List.flatMap_append];exact h1
theorem Jc {P:Program} {w:World} {α:Type} {ops:Array Oper} {rest:List Oper} {o:Oper} {a:Act} {Q:Exit→Act→World→Prop} (hgd:o.guard=none) (s x:Operand) (t:TypeId)
  (ho:o.op = .call { callee:=.builtin .append,args:=#[s,x],argTypes:=#[t,t] }) {base k:Nat} {e:TypeId} {enc:α→List Value} (z:Value) (bytes:Nat) (ht:P.underlying t=some (.slice e))
  (hinfo:(P.info? e).map (fun i=>(i.zero,i.size,i.bytes))=some (some z,k,bytes)) (hzs:z.cells.size=k) (hk:0<k) (he:Enc k enc)
  {v u:Value} {xs ys:List α} (hs:a.eval s=v) (hx:a.eval x=u) (hown:Ow w base e k enc xs v) (hu:Sl w k enc ys u)
  (hm:xs.length+ys.length≤maxLen) (hbytes:(xs.length+ys.length) * bytes≤140737488355328) (hbase:base≤w.heap.size)
  (h:∀ v' w',Ow w' base e k enc (xs++ys) v' → w.grownBy w' v.ownBlock→wpList P ops Q rest (a.put o.dst v') w'):wpList P ops Q (o::rest) a w :=
 wpList_plain hgd fun _ hK=>a0G s x t ho z bytes ht hinfo hzs hk he hs hx hown hu hm hbytes hbase (fun v' w' h1 h2=>hK _ _ (h v' w' h1 h2))
theorem Ga {P:Program} {w wb:World} {α:Type} {ops:Array Oper} {rest:List Oper} {o:Oper} {a:Act} {Q:Exit→Act→World→Prop} (hgd:o.guard=none) (s x:Operand) (t:TypeId)
  (ho:o.op = .call { callee:=.builtin .append,args:=#[s,x],argTypes:=#[t,t] }) {k:Nat} {e:TypeId} {enc:α→List Value} (z:Value) (bytes:Nat) (ht:P.underlying t=some (.slice e))
  (hinfo:(P.info? e).map (fun i=>(i.zero,i.size,i.bytes))=some (some z,k,bytes)) (hzs:z.cells.size=k) (hk:0<k) (he:Enc k enc)
  {v u:Value} {xs ys:List α} (hs:a.eval s=v) (hx:a.eval x=u) (hown:Ow w wb.heap.size e k enc xs v) (hu:Sl w k enc ys u) (hB:Below wb.heap.size wb w)
  (hm:xs.length+ys.length≤maxLen) (hbytes:(xs.length+ys.length) * bytes≤140737488355328)
  (h:∀ v' w',Ow w' wb.heap.size e k enc (xs++ys) v' → Below wb.heap.size wb w' → wpList P ops Q rest (a.put o.dst v') w'):wpList P ops Q (o::rest) a w :=
 Jc hgd s x t ho z bytes ht hinfo hzs hk he hs hx hown hu hm hbytes hB.size (fun v' w' h1 h2=>h v' w' h1 (Ow.below hown hB h2))
end
section
open Go.ChangeShapes Go.WideShapes Go.ChangeAt Go.RowKit
structure Out (S:List Nat) (w w' : World):Prop where
 os:w'.os=w.os
 tape:w'.tape=w.tape
 output:w'.output=w.output
 size:w.heap.size≤w'.heap.size
 block:∀ j,j<w.heap.size→j∉S→w'.heap[j]? = w.heap[j]?
theorem Out.refl (S:List Nat) (w:World):Out S w w:=⟨rfl,rfl,rfl,Nat.le_refl _,fun _ _ _=>rfl⟩
theorem Out.of_kept {S:List Nat} {w w' : World} (h:Below w.heap.size w w'):Out S w w' := ⟨h.os,h.tape,h.output,h.size,fun j hj _=>h.block j hj⟩
theorem Out.trans {S T:List Nat} {a b c:World} (h:Out S a b) (k:Out T b c) (hs:∀ j∈T,j∈S∨a.heap.size≤j):Out S a c :=
 ⟨k.os.trans h.os,k.tape.trans h.tape,k.output.trans h.output,Nat.le_trans h.size k.size,fun j hj hn =>
  (k.block j (Nat.lt_of_lt_of_le hj h.size) (fun hT=>by rcases hs j hT with h1 | h1;exact hn h1;omega)).trans (h.block j hj hn)⟩
theorem Out.then {S:List Nat} {a b c:World} (h:Out S a b) (k:Below b.heap.size b c):Out S a c:=h.trans (Out.of_kept (S:=[]) k) (by simp)
theorem Out.after {S:List Nat} {a b c:World} (k:Below a.heap.size a b) (h:Out S b c):Out S a c:=(Out.of_kept (S:=S) k).trans h (fun _ h=>.inl h)
theorem Out.set {S:List Nat} {w w' : World} (h:Out S w w') {x:Addr} (hx:x.block∈S∨w.heap.size≤x.block) (u:Value):Out S w (w'.setCell x u) :=
 ⟨h.os,h.tape,h.output,by simpa using h.size,fun j hj hn=>(Below.heap_setCell _ _ _ _ (by rcases hx with hx | hx;(intro e;subst e;exact hn hx);omega)).trans (h.block j hj hn)⟩
theorem Out.alloc {S:List Nat} {w w' : World} (h:Out S w w') (o:Obj):Out S w (w'.alloc o):=h.then ((Below.refl _ _).alloc (Nat.le_refl _) o)
theorem Out.drewN {S:List Nat} {w w' : World} (h:Out S w w') (n:Nat):Out S w (w'.drewN n):=h.then (below_drewN (Below.refl _ _) n)
theorem Out.grown {S:List Nat} {w w' w'' : World} (h:Out S w w') {row:Option Nat} (k:w'.grownBy w'' row) (hr:∀ g,row=some g→g∈S∨w.heap.size≤g):Out S w w'' :=
 h.trans (T:=row.toList) ⟨k.os,k.tape,k.output,k.size,fun j hj hn=>k.block j hj (fun e=>hn (by simp [e]))⟩ (fun j hj=>hr j (by simpa using hj))
theorem Out.below {S:List Nat} {base:Nat} {w0 w w' : World} (hb:Below base w0 w) (h:Out S w w') (hS:∀ j∈S,base≤j) (hs:base≤w.heap.size):Below base w0 w' :=
 hb.trans ⟨h.os,h.tape,h.output,h.size,fun j hj=>h.block j (by omega) (fun hm=>by have:=hS j hm;omega)⟩
theorem Ow.of_block {α:Type} {W W' : World} {base k:Nat} {e:TypeId} {enc:α→List Value} {xs:List α} {v:Value} (h:Ow W base e k enc xs v) (hk:∀ g,v.ownBlock=some g→W'.heap[g]? = W.heap[g]?):Ow W' base e k enc xs v:=by
 obtain ⟨h0,h1 | ⟨g,cap,cur,hv,hb,hg,hl,hm,hs,ht⟩⟩:=h
 ·exact ⟨h0,.inl h1⟩
 ·exact ⟨h0,.inr ⟨g,cap,cur,hv,hb,(hk g (by subst hv;rfl)).trans hg,hl,hm,hs,ht⟩⟩
end
section
open Go.ChangeShapes Go.WideShapes Go.ChangeAt Go.RowKit
def Bk (W:World) (b:Nat) (cs:List Value):Prop:=∃ t,W.heap[b]? = some (.cells cs.toArray t (0,0))
section
variable {W W' w w0:World} {b b' : Nat} {cs us:List Value}
theorem Bk.cell (h:Bk W b cs) (i:Nat):W.cell? ⟨b,i,none⟩=cs[i]? := by
 obtain ⟨t,ht⟩:=h
 simp [World.cell?,ht]
theorem Bk.frozen (h:Bk W b cs) (i:Nat):W.frozen? ⟨b,i,none⟩=false:=by
 obtain ⟨t,ht⟩:=h
 simp [World.frozen?,ht]
theorem Bk.lt (h:Bk W b cs):b<W.heap.size:=by
 obtain ⟨t,ht⟩:=h
 exact (Array.getElem?_eq_some_iff.1 ht).1
theorem Bk.kept (h:Bk W b cs) (hg:Below W.heap.size W W'):Bk W' b cs:=by
 obtain ⟨t,ht⟩:=h
 exact ⟨t,(hg.block b (Array.getElem?_eq_some_iff.1 ht).1).trans ht⟩
theorem Bk.out {S:List Nat} (h:Bk W b cs) (ho:Out S W W') (hne:b∉S):Bk W' b cs:=by
 obtain ⟨t,ht⟩:=h
 exact ⟨t,(ho.block b (Array.getElem?_eq_some_iff.1 ht).1 hne).trans ht⟩
theorem Bk.new {c:Array Value} {t:TypeId} (hb:b=W.heap.size):Bk (W.alloc (.cells c t)) b c.toList:=by
 subst hb
 exact ⟨t,by simpa using heap_alloc_new W _⟩
theorem Bk.past {o:Obj} (h:Bk W b cs):Bk (W.alloc o) b cs:=h.kept ((Below.refl _ _).alloc (Nat.le_refl _) o)
theorem VI {n m:Nat} (h:n<m∨m<n):n∉[m]:=by simp;omega
end
section
variable {P:Program} {ops:Array Oper} {rest:List Oper} {o:Oper} {a:Act} {w w0:World} {Q:Exit→Act→World→Prop} {b off:Nat} {cs:List Value} {d:TypeDesc}
theorem wpList_want (hgd:Region.wanted o (yielded ops a.tmps)=true) (h:∀ K:Act→World→Prop,(∀ a w,wpList P ops Q rest a w→K a w)→o.wp P a w K Q):wpList P ops Q (o::rest) a w :=
 wpList_step fun K hK=>by rw [if_pos hgd];exact h K hK
theorem CW (hgd:Region.wanted o (yielded ops a.tmps)=true) (ty:TypeId) (x:Operand) (ho:o.op = .load ty x) (hx:a.eval x = .pointer (some ⟨b,off,none⟩)) (hb:Bk w b cs)
  (hu:P.underlying ty=some d) (hd:d.isRow=true) (us:List Value) (hi:(P.info? ty).map (·.size)=some us.length) (hs:∀ j v,us[j]? = some v→cs[off+j]? = some v)
  (h:wpList P ops Q rest (a.put o.dst (.agg us.toArray)) w):wpList P ops Q (o::rest) a w :=
 wpList_want hgd fun _ hK=>wp_load_mid ty x ho b off hx us d (fun j v hv=>by rw [hb.cell];exact hs j v hv) hu hd hi (hK _ _ h)
theorem BH (ty:TypeId) (hu:P.underlying ty=some d) (hd:d.isRow=false) (hgd:Region.wanted o (yielded ops a.tmps)=true) (x:Operand) (ho:o.op = .load ty x) (hx:a.eval x = .pointer (some ⟨b,off,none⟩)) (hb:Bk w b cs)
  {u:Value} (h0:cs[off]? = some u) (h:wpList P ops Q rest (a.put o.dst u) w):wpList P ops Q (o::rest) a w :=
 wpList_want hgd fun _ hK=>by
  have hc:w.cell? ⟨b,off,none⟩=some u:=(hb.cell off).trans h0
  have hagg:(isAgg ty).run P w = .ok false w:=by
   unfold isAgg
   rw [Sem.run_bind,run_underlying hu w]
   cases d <;> simp_all
  have hl:(load (⟨b,off,none⟩:Addr)).run P w = .ok u w:=by simp [hc]
  unfold Oper.wp execOp
  simp only [ho,hx,Instr.loadAt,Instr.sureAddr,Sem.run_bind,Sem.run_pure,Result.andThen_ok,loadVar,hagg,Bool.false_eq_true,if_false,hl]
  exact hK _ _ h
theorem Ow.out {α:Type} {W W' : World} {b base k:Nat} {e:TypeId} {enc:α→List Value} {xs:List α} {v:Value} (h:Ow W base e k enc xs v) (ho:Out [b] W W') (hlt:b<base):Ow W' base e k enc xs v :=
 Ow.of_block h fun g hg=>ho.block g (h.lt g hg).2 (by have:=(h.lt g hg).1;simp;omega)
end
section
variable {P:Program}
end
end
section
open Go.RowKit
section
variable {P:Program} {Q:Exit→Act→World→Prop}
structure Facts (D:List Nat) (F:Nat→Value→World→Prop) (a:Act) (w:World) (done:Nat→Bool) (b:Act) (W:World):Prop where
 kept:Below w.heap.size w W
 defers:b.defers=a.defers
 size:b.tmps.size=a.tmps.size
 rest:∀ t,t∉D→b.tmps[t]? = a.tmps[t]?
 fact:∀ i d,D[i]? = some d→done i=true→∃ v,b.tmps[d]? = some v∧F i v W
theorem Facts.base {D:List Nat} {F:Nat→Value→World→Prop} {a b:Act} {w W:World} {done:Nat→Bool} (h:Facts D F a w done b W) (t:Nat) {v:Value} (ht:t∉D) (hv:a.tmps[t]? = some v):b.tmps.getD t undef=v:=by
 simp [h.rest t ht,hv]
end
end
section
open Go.RowKit
def qo (l:List Oper) (i j:Nat):Bool:=match l[i]? with | some o=>o.after.any fun e=>Region.binds .any e&&e.on==j | none=>false
theorem il {l:List Oper} {i j:Nat} {o:Oper} (h:qo l i j=true) (hi:l[i]? = some o):∃ e∈o.after,Region.binds .any e=true∧e.on=j:=by
 simp only [qo,hi] at h
 obtain ⟨k,hk,h3⟩:=Array.any_eq_true.1 h
 simp only [Bool.and_eq_true,beq_iff_eq] at h3
 exact ⟨_,Array.getElem_mem hk,h3.1,h3.2⟩
def JH (l:List Oper):Nat→Nat→Nat→Bool
 | 0,i,j=>qo l i j
 | f+1,i,j=>qo l i j||(List.range l.length).any fun k=>qo l i k&&JH l f k j
def Yo (l:List Oper) (n:Nat):Bool:=(List.range l.length).all fun i=>decide (i<n)||(List.range i).all fun j=>JH l 9 i j
def Closed (l:List Oper) (listed:Array Bool):Prop:=∀ (k:Nat) (o:Oper),l[k]? = some o→listed.getD k false=true→∀ e∈o.after,Region.binds .any e=true→listed.getD e.on false=true
theorem Closed.set {l:List Oper} {listed:Array Bool} {i:Nat} {o:Oper} (h:Closed l listed) (hi:l[i]? = some o) (hw:∀ e∈o.after,Region.binds .any e=true→listed.getD e.on false=true):Closed l (listed.setIfInBounds i true):=by
 have hmono:∀ j,listed.getD j false=true→(listed.setIfInBounds i true).getD j false=true:=fun j hj=>by
  by_cases hjz:j<listed.size
  ·by_cases e:i=j
   ·subst e;simp [Array.getD,hjz]
   ·simpa [Array.getD,hjz,Array.getElem_setIfInBounds,e] using hj
  ·simp [Array.getD,hjz] at hj
 intro k o' hk hl e he hb
 by_cases e1:k=i
 ·subst e1
  rw [hi] at hk;cases hk
  exact hmono _ (hw e he hb)
 ·refine hmono _ (h k o' hk ?_ e he hb)
  by_cases hkz:k<listed.size
  ·simpa [Array.getD,hkz,Array.getElem_setIfInBounds,Ne.symm e1] using hl
  ·simp [Array.getD,hkz] at hl
theorem sj {l:List Oper} {j:Nat} {listed:Array Bool} (hc:Closed l listed):∀ (f i:Nat) (o:Oper),JH l f i j=true→l[i]? = some o→(∀ e∈o.after,Region.binds .any e=true→listed.getD e.on false=true)→listed.getD j false=true
 | 0,i,o,h,hi,hw=>by
  obtain ⟨e,he,hb,rfl⟩:=il h hi
  exact hw e he hb
 | f+1,i,o,h,hi,hw=>by
  simp only [JH,Bool.or_eq_true] at h
  rcases h with h | h
  ·obtain ⟨e,he,hb,rfl⟩:=il h hi
   exact hw e he hb
  ·obtain ⟨k,hk,h3⟩:=List.any_eq_true.1 h
   simp only [Bool.and_eq_true] at h3
   obtain ⟨e,he,hb,rfl⟩:=il h3.1 hi
   have hkl:e.on<l.length:=List.mem_range.1 hk
   exact sj hc f _ _ h3.2 (List.getElem?_eq_getElem hkl) (hc _ _ (List.getElem?_eq_getElem hkl) (hw e he hb))
theorem uX {l:List Oper} {n i j:Nat} {o:Oper} {listed:Array Bool} (h:Yo l n=true) (hi:l[i]? = some o) (hn:n≤i) (hj:j<i) (hc:Closed l listed) (hw:∀ e∈o.after,Region.binds .any e=true→listed.getD e.on false=true):listed.getD j false=true:=by
 have hil:i<l.length:=(List.getElem?_eq_some_iff.1 hi).1
 have h1:=List.all_eq_true.1 h i (List.mem_range.2 hil)
 simp only [Bool.or_eq_true,decide_eq_true_eq] at h1
 rcases h1 with h1 | h1
 ·omega
 ·exact sj hc 9 i o (List.all_eq_true.1 h1 j (List.mem_range.2 hj)) hi hw
section
variable {P:Program} {Q:Exit→Act→World→Prop}
theorem sI {l:List Oper} {i:Nat} {o:Oper} {rest:List Oper} {a:Act} {w:World} (hi:l[i]? = some o) (h:wpList P l.toArray Q (o::rest) a w):wpOp P l.toArray Q i (wpList P l.toArray Q rest) a w:=by
 have hi' : l.toArray[i]? = some o:=by simpa using hi
 unfold wpOp
 simp only [hi']
 exact h
end
end
section
open Go.RowKit
structure KP where
 p:Value→World→Prop
 k:∀ {v:Value} {W W' : World},p v W→Below W.heap.size W W' → p v W'
section
variable {P:Program} {Q:Exit→Act→World→Prop}
end
end
section
open Go.ChangeShapes Go.WideShapes Go.ChangeAt Go.RowKit
structure Cf where
 lg:Int
 th:Int
 po:Int
 wt:Int
 sp:Int
 yi:Int
 si:Bool
def Cf.cells (c:Cf):List Value:=[.int .i64 c.lg,.int .i64 c.th,.int .i64 c.po,.int .i64 c.wt,.int .i64 c.sp,.int .i64 c.yi,.bool c.si]
def Cf.shape:List (Ck 0):=[.int .i64,.int .i64,.int .i64,.int .i64,.int .i64,.int .i64,.bool]
abbrev Cf.size:Nat:=7
def Cf.ok (c:Cf):Prop:=In64 c.lg∧In64 c.th∧In64 c.po∧In64 c.wt∧In64 c.sp∧In64 c.yi
def Cf.zero:List Value:=[.int .i64 0,.int .i64 0,.int .i64 0,.int .i64 0,.int .i64 0,.int .i64 0,.bool false]
theorem Cf.of_read {W:World} {vs:List Value} (h:ReadL W Cf.shape vs):∃ c:Cf,vs=c.cells∧c.ok:=by
 simp only [Cf.shape,mX,gy,xI,sK,yC] at h
 obtain ⟨_,_,rfl,⟨lg,rfl,h0⟩,_,_,rfl,⟨th,rfl,h1⟩,_,_,rfl,⟨po,rfl,h2⟩,_,_,rfl,⟨wt,rfl,h3⟩,_,_,rfl,⟨sp,rfl,h4⟩,_,_,rfl,⟨yi,rfl,h5⟩,_,_,rfl,⟨si,rfl⟩,rfl⟩:=h
 exact ⟨⟨lg,th,po,wt,sp,yi,si⟩,rfl,in64_of_wf h0,in64_of_wf h1,in64_of_wf h2,in64_of_wf h3,in64_of_wf h4,in64_of_wf h5⟩
theorem Cf.enc:Enc 7 Cf.cells:=⟨fun _=>rfl,fun x c hc=>by simp [Cf.cells] at hc;rcases hc with rfl | rfl | rfl | rfl | rfl | rfl | rfl <;> rfl⟩
end
section
def Z8 (n:Int):List Value:=[.int .i64 n]
theorem jk:Enc 1 Z8:=⟨fun _=>rfl,fun x c hc=>by simp [Z8] at hc;subst hc;rfl⟩
theorem sJ:(Tryz.prog.info? 3).map (fun i=>(i.zero,i.size,i.bytes))=some (some (.int .i64 0),1,8):=by kernel_rfl
end
section
def xA:List (Ck 0):=[.int .i64]
theorem DL {W:World} {vs:List Value} (h:ReadL W xA vs):∃ d:Int,vs=Z8 d∧In64 d:=by
 simp only [xA,mX,gy,xI,sK,yC] at h
 obtain ⟨_,_,rfl,⟨a,rfl,h0⟩,rfl⟩:=h
 exact ⟨a,rfl,in64_of_wf h0⟩
end
section
def jO (p r:Int):Bool:=decide (0≤p)&&decide (1≤r)
def I9 (p r:Int):Int:=if jO p r then p % r else 0
def NJ (p r:Int):Int:=if jO p r then p / r else 0
def kC (h t:Int):Bool:=decide (h=t)
def bV (h t:Int):Int:=if t≤h then 0 else if t - h≤9223372036854775807 then t - h else 9223372036854775807
def H6 (h t m r:Int):Bool:=decide (0≤h)&&decide (h≤t)&&decide (t≤1099511627776)&&decide (0≤m)&&decide (m≤2)&&decide (bV h t≤r)
def lu (h t r:Int):Bool:=decide (r≤bV h t)
theorem Lu {p r:Int} (h:0≤p) (h' : 1≤r):jO p r=true:=by simp [jO,h,h']
theorem VX {h t:Int} (e:kC h t=true):h=t:=by simpa [kC] using e
theorem rD {p r:Int} (h:0≤p) (h' : 1≤r):I9 p r=p % r:=by simp [I9,Lu h h']
theorem PZ {p r:Int} (h:0≤p) (h' : 1≤r):NJ p r=p / r:=by simp [NJ,Lu h h']
theorem EA {p r:Int} (h:0≤p) (h' : 1≤r):0≤I9 p r∧I9 p r<r:=by
 rw [rD h h'];exact ⟨Int.emod_nonneg _ (by omega),Int.emod_lt_of_pos _ (by omega)⟩
theorem splits {p r:Int} (h:0≤p) (h' : 1≤r):p=NJ p r * r+I9 p r:=by
 rw [rD h h',PZ h h',Int.mul_comm];exact (Int.mul_ediv_add_emod p r).symm
theorem He {p r a b:Int} (h:0≤p) (h' : 1≤r) (hb:0≤b) (hb' : b<r) (e:p=a * r+b):NJ p r=a∧I9 p r=b:=by
 have h1:I9 p r=b:=by
  rw [rD h h',e,Int.add_comm,Int.add_mul_emod_self_right,Int.emod_eq_of_lt hb hb']
 refine ⟨?_,h1⟩
 rw [PZ h h',e,Int.add_comm,Int.add_mul_ediv_right _ _ (by omega),Int.ediv_eq_zero_of_lt hb hb']
 omega
theorem Im {p r k:Int} (h:0≤p) (h' : 1≤r) (hk:0≤k):NJ (p+k * r) r=NJ p r+k∧I9 (p+k * r) r=I9 p r:=by
 have:=splits h h'
 have:=EA h h'
 have:0≤k * r:=Int.mul_nonneg hk (by omega)
 exact He (by omega) h' (by omega) (by omega) (by rw [Int.add_mul];omega)
theorem M3 {h t m r:Int} (c:H6 h t m r=true):0≤h∧h≤t∧t≤1099511627776∧0≤m∧m≤2∧bV h t=t - h∧t - h≤r:=by
 simp [H6] at c
 have:bV h t=t - h:=by unfold bV;split <;> omega
 omega
end
section
open Go.ChangeShapes Go.WideShapes Go.ChangeAt Go.RowKit
theorem Ub (p r:Int) (hp:In64 p) (hr:In64 r) (w:World) :
  Calls Tryz.prog 108 #[.int .i64 p,.int .i64 r] w fun e w' => e = .returned (.bool (jO p r))∧Kept w w' := by
 go_enter Tryz.func108,Tryz.ntmps108
 go_wp2
 all_goals (go_ret;exact ⟨M7 (by first | (rw [Bool.eq_iff_iff];simp [jO];omega) | (simp [jO, *];done) | (simp [jO, *];omega) | (simp [jO, *];intros;omega)),by exact F6⟩)
theorem zZ (p r:Int) (hp:In64 p) (hr:In64 r) (w:World) :
  Calls Tryz.prog 74 #[.int .i64 p,.int .i64 r] w fun e w' => e = .returned (.int .i64 (I9 p r))∧Kept w w' := by
 cases hl:jO p r <;> (have hl' := hl;simp [jO] at hl')
 all_goals
  go_enter Tryz.func74,Tryz.ntmps74
  go_wp2_with (go_at_call 108;refine (Ub _ _ (by omega) (by omega) _).mono ?_;rintro e wx ⟨rfl,hgx⟩)
  all_goals (go_ret;exact ⟨cO (by first | (simp [I9, *];done) | (simp [I9, *];omega) | (simp [I9, *];intros;omega)),by exact F6⟩)
theorem nG (h t m:Int) (w:World) :
  Calls Tryz.prog 73 #[.agg #[.int .i64 h,.int .i64 t,.int .i64 m]] w fun e w' => e = .returned (.bool (kC h t))∧Kept w w' := by
 go_enter Tryz.func73,Tryz.ntmps73
 go_wp2
 all_goals (go_ret;exact ⟨M7 (by first | (rw [Bool.eq_iff_iff];simp [kC];omega) | (simp [kC, *];done) | (simp [kC, *];omega) | (simp [kC, *];intros;omega)),by exact F6⟩)
theorem BD (h t m:Int) (hh:In64 h) (ht:In64 t) (w:World) :
  Calls Tryz.prog 44 #[.agg #[.int .i64 h,.int .i64 t,.int .i64 m]] w fun e w' => e = .returned (.int .i64 (bV h t))∧Kept w w' := by
 cases he:kC h t
 ·have he' : h≠t:=by simpa [kC] using he
  by_cases hlt:t<h
  ·go_enter Tryz.func44,Tryz.ntmps44
   go_wp2_with (first | (go_at_call 73;refine (nG _ _ _ _).mono ?_;rintro e wx ⟨rfl,hgx⟩;obtain ⟨hcx,hfx⟩:=aY hgx;have hz0:w.heap.size<wx.heap.size:=(by have:=hgx.size;(try simp at this);omega)))
   all_goals (go_ret;exact ⟨cO (by first | (simp [bV, *];done) | (simp [bV, *];omega) | (simp [bV, *];intros;omega)),by exact F6⟩)
  ·by_cases hs:t - h≤9223372036854775807
   ·go_enter Tryz.func44,Tryz.ntmps44
    go_wp2_with (first | (go_at_call 73;refine (nG _ _ _ _).mono ?_;rintro e wx ⟨rfl,hgx⟩;obtain ⟨hcx,hfx⟩:=aY hgx;have hz0:w.heap.size<wx.heap.size:=(by have:=hgx.size;(try simp at this);omega)))
    go_ret
    exact ⟨cO (by rw [bV,if_neg (by omega),if_pos hs]),by exact F6⟩
   ·have hw:¬ 0<wrap64 (t - h):=by unfold wrap64;omega
    go_enter Tryz.func44,Tryz.ntmps44
    go_wp2_with (first | (go_at_call 73;refine (nG _ _ _ _).mono ?_;rintro e wx ⟨rfl,hgx⟩;obtain ⟨hcx,hfx⟩:=aY hgx;have hz0:w.heap.size<wx.heap.size:=(by have:=hgx.size;(try simp at this);omega)))
    go_ret
    exact ⟨cO (by rw [bV,if_neg (by omega),if_neg (by omega)]),by exact F6⟩
 ·go_enter Tryz.func44,Tryz.ntmps44
  go_wp2_with (first | (go_at_call 73;refine (nG _ _ _ _).mono ?_;rintro e wx ⟨rfl,hgx⟩;obtain ⟨hcx,hfx⟩:=aY hgx;have hz0:w.heap.size<wx.heap.size:=(by have:=hgx.size;(try simp at this);omega)))
  go_ret
  exact ⟨cO (by rw [bV,if_pos (by have:=VX he;omega)]),by exact F6⟩
theorem Pk (h t m r:Int) (hh:In64 h) (ht:In64 t) (w:World) :
  Calls Tryz.prog 357 #[.agg #[.int .i64 h,.int .i64 t,.int .i64 m],.int .i64 r] w fun e w' => e = .returned (.bool (lu h t r))∧Kept w w' := by
 go_enter Tryz.func357,Tryz.ntmps357
 go_wp2_with (first | (go_at_call 44;refine (BD _ _ _ (by omega) (by omega) _).mono ?_;rintro e wx ⟨rfl,hgx⟩;obtain ⟨hcx,hfx⟩:=aY hgx;have hz0:w.heap.size<wx.heap.size:=(by have:=hgx.size;(try simp at this);omega)))
 all_goals (go_ret;exact ⟨M7 (by first | (rw [Bool.eq_iff_iff];simp [lu];omega) | (simp [lu, *];done) | (simp [lu, *];omega) | (simp [lu, *];intros;omega)),by exact F6⟩)
theorem Bl (h t m r:Int) (hh:In64 h) (ht:In64 t) (hm:In64 m) (hr:In64 r) (w:World) :
  Calls Tryz.prog 100 #[.agg #[.int .i64 h,.int .i64 t,.int .i64 m],.int .i64 r] w fun e w' => e = .returned (.bool (H6 h t m r))∧Kept w w' := by
 go_enter Tryz.func100,Tryz.ntmps100
 go_wp2_with (first | (go_at_call 44;refine (BD _ _ _ (by omega) (by omega) _).mono ?_;rintro e wx ⟨rfl,hgx⟩;obtain ⟨hcx,hfx⟩:=aY hgx;have hz0:w.heap.size<wx.heap.size:=(by have:=hgx.size;(try simp at this);omega)) | go_in)
 all_goals (go_ret;exact ⟨M7 (by first | (rw [Bool.eq_iff_iff];simp [H6];omega) | (simp [H6, *];done) | (simp [H6, *];omega) | (simp [H6, *];intros;omega)),by exact F6⟩)
end
end Go.Proofs.YtfogkllejkmpdaaGreat
