/- Texts merged: RowT, OutT, ObjT, FactsT, FabTT, FlT, CfT, IntT, IntRT, PosFT, PosCT, SlotFT, SloRT, FifoFT. -/
import Derived.Test.YtbckpadeamlidaaGreatZe3
import Derived.OwnWalk
import Derived.Laws.AppendOwnNone
import Derived.Deep.MidRow
import Derived.Laws.CopyRow
import Derived.Laws.Rows
import Derived.Deep.Cut
import Derived.Test.YtbckpadeamlidaaGreatZe1
namespace Go.Proofs.YtbckpadeamlidaaGreat
set_option linter.unusedVariables false
set_option linter.unusedSimpArgs false
set_option maxRecDepth 100000
section
open Go.ChangeShapes Go.WideShapes Go.ChangeAt Go.RowKit
structure Enc {α:Type} (k:Nat) (enc:α→List Value):Prop where
 len:∀ x,(enc x).length=k
 one:∀ x,∀ c∈enc x,c.oneCell' = true
theorem flat_len {α:Type} {k:Nat} {enc:α→List Value} (h:Enc k enc) (xs:List α):(xs.flatMap enc).length=xs.length * k:=by
 induction xs with
 | nil=>simp
 | cons x xs ih=>simp [ih,h.len,Nat.add_mul,Nat.add_comm]
theorem flat_get {α:Type} {k:Nat} {enc:α→List Value} (h:Enc k enc):∀ (xs:List α) (i j:Nat) (x:α),xs[i]? = some x→j<k→(xs.flatMap enc)[i * k+j]? = (enc x)[j]?
 | [],i,j,x,hx,_=>by simp at hx
 | y::ys,0,j,x,hx,hj=>by
  simp only [List.getElem?_cons_zero,Option.some.injEq] at hx
  subst hx
  rw [List.flatMap_cons,Nat.zero_mul,Nat.zero_add,List.getElem?_append_left (by rw [h.len];exact hj)]
 | y::ys,i+1,j,x,hx,hj=>by
  simp only [List.getElem?_cons_succ] at hx
  have:=flat_get h ys i j x hx hj
  rw [List.flatMap_cons,List.getElem?_append_right (by rw [h.len,Nat.add_mul];omega),h.len,← this]
  congr 1
  rw [Nat.add_mul];omega
theorem Sl.drop {α:Type} {W:World} {k:Nat} {enc:α→List Value} {xs:List α} {b o n c:Nat} (i:Nat) (h:Sl W k enc xs (.slice (some ⟨b,o,none⟩) n c)) (hi:i≤xs.length) {a:Addr} (ha:i<c→a=⟨b,o+i * k,none⟩) {n' c' : Nat} (hn:n' = n - i) (hc' : c' = c - i) :
  Sl W k enc (xs.drop i) (.slice (some a) n' c'):=by
 obtain ⟨p,cap,hv,h1,h2,h3,h4⟩:=h.is
 cases hv
 subst hn hc'
 refine ⟨some a,c - i,by simp,by simp;omega,by omega,(fun h=>by cases h),fun hne=>?_⟩
 have hlt:i<xs.length:=by
  rcases Nat.lt_or_ge i xs.length with h | h
  ·exact h
  ·exact absurd (List.drop_eq_nil_of_le h) hne
 obtain ⟨b',o',hp,hb,hcell⟩:=h4 (by intro h;subst h;simp at hlt)
 cases hp
 refine ⟨b,o+i * k,by rw [ha (by omega)],hb,fun j x hx l hl=>?_⟩
 rw [List.getElem?_drop] at hx
 rw [← hcell (i+j) x hx l hl]
 congr 2
 rw [Nat.add_mul];omega
def Ow {α:Type} (W:World) (base:Nat) (e:TypeId) (k:Nat) (enc:α→List Value) (xs:List α) (v:Value):Prop:=W.ownsRow base e k v xs.length (xs.flatMap enc)
theorem Ow.sl {α:Type} {W:World} {base k:Nat} {e:TypeId} {enc:α→List Value} {xs:List α} {v:Value} (he:Enc k enc) (h:Ow W base e k enc xs v):Sl W k enc xs v:=by
 obtain ⟨_,⟨rfl,h0⟩ | ⟨g,cap,cur,rfl,hb,hg,hl,hm,hs,ht⟩⟩:=h
 ·have:xs=[]:=List.length_eq_zero_iff.1 h0
  subst this
  exact ⟨none,0,rfl,by simp,by simp,fun _=>rfl,fun h=>absurd rfl h⟩
 ·refine ⟨some ⟨g,0,none⟩,cap,rfl,hl,hm,(fun h=>by cases h),fun _=>⟨g,0,rfl,(Array.getElem?_eq_some_iff.1 hg).1,fun i x hx j hj=>?_⟩⟩
  have hc:W.cell? ⟨g,0+i * k+j,none⟩=cur[0+i * k+j]? := by simp [World.cell?,hg]
  have hi:i<xs.length:=(List.getElem?_eq_some_iff.1 hx).1
  have hik:i * k+j<xs.length * k:=by
   have:=Nat.mul_le_mul_right k (show i+1≤xs.length by omega)
   rw [Nat.add_mul] at this;omega
  rw [hc,← flat_get he xs i j x hx hj,← ht,List.getElem?_take_of_lt hik,Nat.zero_add]
  simp
theorem Ow.kept {α:Type} {W W' : World} {base k:Nat} {e:TypeId} {enc:α→List Value} {xs:List α} {v:Value} (h:Ow W base e k enc xs v) (hk:Below W.heap.size W W'):Ow W' base e k enc xs v:=by
 obtain ⟨h0,h1 | ⟨g,cap,cur,hv,hb,hg,hl,hm,hs,ht⟩⟩:=h
 ·exact ⟨h0,.inl h1⟩
 ·exact ⟨h0,.inr ⟨g,cap,cur,hv,hb,(hk.block g (Array.getElem?_eq_some_iff.1 hg).1).trans hg,hl,hm,hs,ht⟩⟩
theorem Ow.made {α:Type} {W:World} {base k:Nat} {e:TypeId} {enc:α→List Value} (he:Enc k enc) (xs:List α) (cells:Array Value) (hc:cells.toList=xs.flatMap enc) (hb:base≤W.heap.size) (hm:xs.length≤maxLen) {g n:Nat} (hg:W.heap.size=g) (hn:xs.length=n) :
  Ow (W.alloc (.cells cells e)) base e k enc xs (.slice (some ⟨g,0,none⟩) n n):=by
 subst hg hn
 have hl:=flat_len he xs
 have hs:cells.size=xs.length * k:=by rw [← hl,← hc];simp
 exact ⟨hl,.inr ⟨W.heap.size,xs.length,cells,rfl,hb,heap_alloc_new W _,Nat.le_refl _,hm,hs,by rw [← hc,List.take_of_length_le (by simp [hs])]⟩⟩
theorem Ow.below {α:Type} {w W W' : World} {k:Nat} {e:TypeId} {enc:α→List Value} {xs:List α} {v:Value} (h:Ow W w.heap.size e k enc xs v) (hB:Below w.heap.size w W) (hg:W.grownBy W' v.ownBlock):Below w.heap.size w W' :=
 hB.grown hg hB.size (fun i e=>(World.ownsRow.lt h i e).1)
theorem Ow.lt {α:Type} {W:World} {base k:Nat} {e:TypeId} {enc:α→List Value} {xs:List α} {v:Value} (h:Ow W base e k enc xs v):∀ g,v.ownBlock=some g→base≤g∧g<W.heap.size:=World.ownsRow.lt h
theorem Ow.grown {α:Type} {W W' : World} {base k:Nat} {e:TypeId} {enc:α→List Value} {xs:List α} {v:Value} {row:Option Nat} (h:Ow W base e k enc xs v) (hg:W.grownBy W' row) (hne:∀ g,v.ownBlock=some g→row≠some g):Ow W' base e k enc xs v:=by
 obtain ⟨h0,h1 | ⟨g,cap,cur,rfl,hb,hg',hl,hm,hs,ht⟩⟩:=h
 ·exact ⟨h0,.inl h1⟩
 ·exact ⟨h0,.inr ⟨g,cap,cur,rfl,hb,(hg.block g (Array.getElem?_eq_some_iff.1 hg').1 (fun e=>hne g rfl e.symm)).trans hg',hl,hm,hs,ht⟩⟩
theorem Ow.setCell {α:Type} {W:World} {base k:Nat} {e:TypeId} {enc:α→List Value} {xs:List α} {v:Value} (h:Ow W base e k enc xs v) {p:Addr} (hp:p.block<base) (u:Value):Ow (W.setCell p u) base e k enc xs v:=ownsRow_setCell_below h hp u
theorem wp_app {P:Program} {w:World} {α:Type} {o:Oper} {a:Act} {K:Act→World→Prop} {Q:Exit→Act→World→Prop} (s x:Operand) (t:TypeId)
  (ho:o.op = .call { callee:=.builtin .append,args:=#[s,x],argTypes:=#[t,t] }) {base k:Nat} {e:TypeId} {enc:α→List Value} (z:Value) (bytes:Nat) (ht:P.underlying t=some (.slice e))
  (hinfo:(P.info? e).map (fun i=>(i.zero,i.size,i.bytes))=some (some z,k,bytes)) (hzs:z.cells.size=k) (hk:0<k) (he:Enc k enc)
  {v u:Value} {xs ys:List α} (hs:a.eval s=v) (hx:a.eval x=u) (hown:Ow w base e k enc xs v) (hu:Sl w k enc ys u)
  (hm:xs.length+ys.length≤maxLen) (hbytes:(xs.length+ys.length) * bytes≤140737488355328) (hbase:base≤w.heap.size)
  (h:∀ v' w',Ow w' base e k enc (xs++ys) v' → w.grownBy w' v.ownBlock→K (a.put o.dst v') w'):o.wp P a w K Q:=by
 obtain ⟨i,hi,hz0,hz1,hz2⟩:=info_parts hinfo
 obtain ⟨p,cap,rfl,hlc,hcm,hp,hc⟩:=hu.is
 cases p with
 | none =>
  have:cap=0:=hp rfl
  subst this
  have:ys=[]:=List.length_eq_zero_iff.1 (by omega)
  subst this
  have hrun:=run_append_owned_none (P:=P) (w:=w) base t o.type e i k ht hi v _ _ hown
  have hx' : a.eval x = .slice none 0 0:=by rw [hx];rfl
  unfold Oper.wp
  simp [execOp,ho,resolve,invoke,builtin,hs,hx',hrun,Result.andThen]
  exact h v w (by rw [List.append_nil];exact hown) ⟨rfl,rfl,rfl,Nat.le_refl _,fun _ _ _=>rfl⟩
 | some ad =>
  refine wp_append_own w s x t ho base e i z k bytes ht hi hz0 hz1 hz2 hzs hk v _ _ hs hown ad ys.length cap (ys.flatMap enc) hx (flat_len he ys) ?_ ?_ hm hbytes hbase (fun v' w' h1 h2 _=>h v' w' ?_ h2)
  ·intro j c hj
   have hj' := (List.getElem?_eq_some_iff.1 hj).1
   rw [flat_len he] at hj'
   have hne:ys≠[]:=by rintro rfl;simp at hj'
   obtain ⟨b,off,hab,_,hcell⟩:=hc hne
   cases hab
   have hd:j / k<ys.length:=Nat.div_lt_of_lt_mul (by rw [Nat.mul_comm];exact hj')
   have hmo:=Nat.mod_lt j hk
   have hdm:j / k * k+j % k=j:=by rw [Nat.mul_comm];exact Nat.div_add_mod j k
   have h1:=hcell (j / k) ys[j / k] (List.getElem?_eq_getElem hd) (j % k) hmo
   have h2:=flat_get he ys (j / k) (j % k) ys[j / k] (List.getElem?_eq_getElem hd) hmo
   rw [hdm,hj] at h2
   rw [← h2,Nat.add_assoc,hdm] at h1
   rw [← h1]
   congr 1
   unfold Addr.add
   split
   ·rename_i h0;rw [h0];rfl
   ·rfl
  ·intro c hc'
   obtain ⟨y,_,hy⟩:=List.mem_flatMap.1 hc'
   exact he.one y c hy
  ·unfold Ow;rw [List.length_append,List.flatMap_append];exact h1
theorem wpList_app {P:Program} {w:World} {α:Type} {ops:Array Oper} {rest:List Oper} {o:Oper} {a:Act} {Q:Exit→Act→World→Prop} (hgd:o.guard=none) (s x:Operand) (t:TypeId)
  (ho:o.op = .call { callee:=.builtin .append,args:=#[s,x],argTypes:=#[t,t] }) {base k:Nat} {e:TypeId} {enc:α→List Value} (z:Value) (bytes:Nat) (ht:P.underlying t=some (.slice e))
  (hinfo:(P.info? e).map (fun i=>(i.zero,i.size,i.bytes))=some (some z,k,bytes)) (hzs:z.cells.size=k) (hk:0<k) (he:Enc k enc)
  {v u:Value} {xs ys:List α} (hs:a.eval s=v) (hx:a.eval x=u) (hown:Ow w base e k enc xs v) (hu:Sl w k enc ys u)
  (hm:xs.length+ys.length≤maxLen) (hbytes:(xs.length+ys.length) * bytes≤140737488355328) (hbase:base≤w.heap.size)
  (h:∀ v' w',Ow w' base e k enc (xs++ys) v' → w.grownBy w' v.ownBlock→wpList P ops Q rest (a.put o.dst v') w'):wpList P ops Q (o::rest) a w :=
 wpList_plain hgd fun _ hK=>wp_app s x t ho z bytes ht hinfo hzs hk he hs hx hown hu hm hbytes hbase (fun v' w' h1 h2=>hK _ _ (h v' w' h1 h2))
theorem wpList_app' {P:Program} {w wb:World} {α:Type} {ops:Array Oper} {rest:List Oper} {o:Oper} {a:Act} {Q:Exit→Act→World→Prop} (hgd:o.guard=none) (s x:Operand) (t:TypeId)
  (ho:o.op = .call { callee:=.builtin .append,args:=#[s,x],argTypes:=#[t,t] }) {k:Nat} {e:TypeId} {enc:α→List Value} (z:Value) (bytes:Nat) (ht:P.underlying t=some (.slice e))
  (hinfo:(P.info? e).map (fun i=>(i.zero,i.size,i.bytes))=some (some z,k,bytes)) (hzs:z.cells.size=k) (hk:0<k) (he:Enc k enc)
  {v u:Value} {xs ys:List α} (hs:a.eval s=v) (hx:a.eval x=u) (hown:Ow w wb.heap.size e k enc xs v) (hu:Sl w k enc ys u) (hB:Below wb.heap.size wb w)
  (hm:xs.length+ys.length≤maxLen) (hbytes:(xs.length+ys.length) * bytes≤140737488355328)
  (h:∀ v' w',Ow w' wb.heap.size e k enc (xs++ys) v' → Below wb.heap.size wb w' → wpList P ops Q rest (a.put o.dst v') w'):wpList P ops Q (o::rest) a w :=
 wpList_app hgd s x t ho z bytes ht hinfo hzs hk he hs hx hown hu hm hbytes hB.size (fun v' w' h1 h2=>h v' w' h1 (Ow.below hown hB h2))
end
section
open Go.ChangeShapes Go.WideShapes Go.ChangeAt Go.RowKit
structure Out (S:List Nat) (w w' : World):Prop where
 os:w'.os=w.os
 tape:w'.tape=w.tape
 output:w'.output=w.output
 size:w.heap.size≤w'.heap.size
 block:∀ j,j<w.heap.size→j∉S→w'.heap[j]? = w.heap[j]?
theorem Out.refl (S:List Nat) (w:World):Out S w w:=⟨rfl,rfl,rfl,Nat.le_refl _,fun _ _ _=>rfl⟩
theorem Out.of_kept {S:List Nat} {w w' : World} (h:Below w.heap.size w w'):Out S w w' := ⟨h.os,h.tape,h.output,h.size,fun j hj _=>h.block j hj⟩
theorem Out.trans {S T:List Nat} {a b c:World} (h:Out S a b) (k:Out T b c) (hs:∀ j∈T,j∈S∨a.heap.size≤j):Out S a c :=
 ⟨k.os.trans h.os,k.tape.trans h.tape,k.output.trans h.output,Nat.le_trans h.size k.size,fun j hj hn =>
  (k.block j (Nat.lt_of_lt_of_le hj h.size) (fun hT=>by rcases hs j hT with h1 | h1;exact hn h1;omega)).trans (h.block j hj hn)⟩
theorem Out.then {S:List Nat} {a b c:World} (h:Out S a b) (k:Below b.heap.size b c):Out S a c:=h.trans (Out.of_kept (S:=[]) k) (by simp)
theorem Out.after {S:List Nat} {a b c:World} (k:Below a.heap.size a b) (h:Out S b c):Out S a c:=(Out.of_kept (S:=S) k).trans h (fun _ h=>.inl h)
theorem Out.set {S:List Nat} {w w' : World} (h:Out S w w') {x:Addr} (hx:x.block∈S∨w.heap.size≤x.block) (u:Value):Out S w (w'.setCell x u) :=
 ⟨h.os,h.tape,h.output,by simpa using h.size,fun j hj hn=>(Below.heap_setCell _ _ _ _ (by rcases hx with hx | hx;(intro e;subst e;exact hn hx);omega)).trans (h.block j hj hn)⟩
theorem Out.alloc {S:List Nat} {w w' : World} (h:Out S w w') (o:Obj):Out S w (w'.alloc o):=h.then ((Below.refl _ _).alloc (Nat.le_refl _) o)
theorem Out.drewN {S:List Nat} {w w' : World} (h:Out S w w') (n:Nat):Out S w (w'.drewN n):=h.then (below_drewN (Below.refl _ _) n)
theorem Out.grown {S:List Nat} {w w' w'' : World} (h:Out S w w') {row:Option Nat} (k:w'.grownBy w'' row) (hr:∀ g,row=some g→g∈S∨w.heap.size≤g):Out S w w'' :=
 h.trans (T:=row.toList) ⟨k.os,k.tape,k.output,k.size,fun j hj hn=>k.block j hj (fun e=>hn (by simp [e]))⟩ (fun j hj=>hr j (by simpa using hj))
theorem Out.below {S:List Nat} {base:Nat} {w0 w w' : World} (hb:Below base w0 w) (h:Out S w w') (hS:∀ j∈S,base≤j) (hs:base≤w.heap.size):Below base w0 w' :=
 hb.trans ⟨h.os,h.tape,h.output,h.size,fun j hj=>h.block j (by omega) (fun hm=>by have:=hS j hm;omega)⟩
theorem Ow.of_block {α:Type} {W W' : World} {base k:Nat} {e:TypeId} {enc:α→List Value} {xs:List α} {v:Value} (h:Ow W base e k enc xs v) (hk:∀ g,v.ownBlock=some g→W'.heap[g]? = W.heap[g]?):Ow W' base e k enc xs v:=by
 obtain ⟨h0,h1 | ⟨g,cap,cur,hv,hb,hg,hl,hm,hs,ht⟩⟩:=h
 ·exact ⟨h0,.inl h1⟩
 ·exact ⟨h0,.inr ⟨g,cap,cur,hv,hb,(hk g (by subst hv;rfl)).trans hg,hl,hm,hs,ht⟩⟩
end
section
open Go.ChangeShapes Go.WideShapes Go.ChangeAt Go.RowKit
def Bk (W:World) (b:Nat) (cs:List Value):Prop:=∃ t,W.heap[b]? = some (.cells cs.toArray t (0,0))
section
variable {W W' w w0:World} {b b' : Nat} {cs us:List Value}
theorem Bk.cell (h:Bk W b cs) (i:Nat):W.cell? ⟨b,i,none⟩=cs[i]? := by
 obtain ⟨t,ht⟩:=h
 simp [World.cell?,ht]
theorem Bk.frozen (h:Bk W b cs) (i:Nat):W.frozen? ⟨b,i,none⟩=false:=by
 obtain ⟨t,ht⟩:=h
 simp [World.frozen?,ht]
theorem Bk.lt (h:Bk W b cs):b<W.heap.size:=by
 obtain ⟨t,ht⟩:=h
 exact (Array.getElem?_eq_some_iff.1 ht).1
theorem Bk.kept (h:Bk W b cs) (hg:Below W.heap.size W W'):Bk W' b cs:=by
 obtain ⟨t,ht⟩:=h
 exact ⟨t,(hg.block b (Array.getElem?_eq_some_iff.1 ht).1).trans ht⟩
theorem Bk.out {S:List Nat} (h:Bk W b cs) (ho:Out S W W') (hne:b∉S):Bk W' b cs:=by
 obtain ⟨t,ht⟩:=h
 exact ⟨t,(ho.block b (Array.getElem?_eq_some_iff.1 ht).1 hne).trans ht⟩
theorem Bk.new {c:Array Value} {t:TypeId} (hb:b=W.heap.size):Bk (W.alloc (.cells c t)) b c.toList:=by
 subst hb
 exact ⟨t,by simpa using heap_alloc_new W _⟩
theorem Bk.past {o:Obj} (h:Bk W b cs):Bk (W.alloc o) b cs:=h.kept ((Below.refl _ _).alloc (Nat.le_refl _) o)
theorem not_one {n m:Nat} (h:n<m∨m<n):n∉[m]:=by simp;omega
theorem Bk.apart {v:Value} (h:Bk W b cs) {base:Nat} {α:Type} {e:TypeId} {k:Nat} {enc:α→List Value} {xs:List α} (ho:Ow W base e k enc xs v) (hlt:b<base):∀ g,v.ownBlock=some g→g≠b:=fun g hg=>by have:=(ho.lt g hg).1;omega
end
section
variable {P:Program} {ops:Array Oper} {rest:List Oper} {o:Oper} {a:Act} {w w0:World} {Q:Exit→Act→World→Prop} {b off:Nat} {cs:List Value} {d:TypeDesc}
theorem wpList_want (hgd:Region.wanted o (yielded ops a.tmps)=true) (h:∀ K:Act→World→Prop,(∀ a w,wpList P ops Q rest a w→K a w)→o.wp P a w K Q):wpList P ops Q (o::rest) a w :=
 wpList_step fun K hK=>by rw [if_pos hgd];exact h K hK
theorem wpList_loadL (hgd:Region.wanted o (yielded ops a.tmps)=true) (ty:TypeId) (x:Operand) (ho:o.op = .load ty x) (hx:a.eval x = .pointer (some ⟨b,off,none⟩)) (hb:Bk w b cs)
  (hu:P.underlying ty=some d) (hd:d.isRow=true) (us:List Value) (hi:(P.info? ty).map (·.size)=some us.length) (hs:∀ j v,us[j]? = some v→cs[off+j]? = some v)
  (h:wpList P ops Q rest (a.put o.dst (.agg us.toArray)) w):wpList P ops Q (o::rest) a w :=
 wpList_want hgd fun _ hK=>wp_load_mid ty x ho b off hx us d (fun j v hv=>by rw [hb.cell];exact hs j v hv) hu hd hi (hK _ _ h)
theorem wpList_load1 (ty:TypeId) (hu:P.underlying ty=some d) (hd:d.isRow=false) (hgd:Region.wanted o (yielded ops a.tmps)=true) (x:Operand) (ho:o.op = .load ty x) (hx:a.eval x = .pointer (some ⟨b,off,none⟩)) (hb:Bk w b cs)
  {u:Value} (h0:cs[off]? = some u) (h:wpList P ops Q rest (a.put o.dst u) w):wpList P ops Q (o::rest) a w :=
 wpList_want hgd fun _ hK=>by
  have hc:w.cell? ⟨b,off,none⟩=some u:=(hb.cell off).trans h0
  have hagg:(isAgg ty).run P w = .ok false w:=by
   unfold isAgg
   rw [Sem.run_bind,run_underlying hu w]
   cases d <;> simp_all
  have hl:(load (⟨b,off,none⟩:Addr)).run P w = .ok u w:=by simp [hc]
  unfold Oper.wp execOp
  simp only [ho,hx,Instr.loadAt,Instr.sureAddr,Sem.run_bind,Sem.run_pure,Result.andThen_ok,loadVar,hagg,Bool.false_eq_true,if_false,hl]
  exact hK _ _ h
theorem Ow.out {α:Type} {W W' : World} {b base k:Nat} {e:TypeId} {enc:α→List Value} {xs:List α} {v:Value} (h:Ow W base e k enc xs v) (ho:Out [b] W W') (hlt:b<base):Ow W' base e k enc xs v :=
 Ow.of_block h fun g hg=>ho.block g (h.lt g hg).2 (by have:=(h.lt g hg).1;simp;omega)
end
section
variable {P:Program}
end
end
section
open Go.RowKit
section
variable {P:Program} {Q:Exit→Act→World→Prop}
structure Facts (D:List Nat) (F:Nat→Value→World→Prop) (a:Act) (w:World) (done:Nat→Bool) (b:Act) (W:World):Prop where
 kept:Below w.heap.size w W
 defers:b.defers=a.defers
 size:b.tmps.size=a.tmps.size
 rest:∀ t,t∉D→b.tmps[t]? = a.tmps[t]?
 fact:∀ i d,D[i]? = some d→done i=true→∃ v,b.tmps[d]? = some v∧F i v W
theorem Facts.base {D:List Nat} {F:Nat→Value→World→Prop} {a b:Act} {w W:World} {done:Nat→Bool} (h:Facts D F a w done b W) (t:Nat) {v:Value} (ht:t∉D) (hv:a.tmps[t]? = some v):b.tmps.getD t undef=v:=by
 simp [h.rest t ht,hv]
theorem act_lit {b:Act} {n:Nat} {ds:List Deferred} (hz:b.tmps.size=n) (hd:b.defers=ds):b=⟨((List.range n).map fun i=>b.tmps.getD i undef).toArray,ds⟩:=by
 obtain ⟨tm,df⟩:=b
 subst hz hd
 congr 1
 apply Array.ext
 ·simp
 ·intro i h1 h2
  simp [Array.getD,h1]
end
end
section
open Go.RowKit
def waitB (l:List Oper) (i j:Nat):Bool:=match l[i]? with | some o=>o.after.any fun e=>Region.binds .any e&&e.on==j | none=>false
theorem waitB_spec {l:List Oper} {i j:Nat} {o:Oper} (h:waitB l i j=true) (hi:l[i]? = some o):∃ e∈o.after,Region.binds .any e=true∧e.on=j:=by
 simp only [waitB,hi] at h
 obtain ⟨k,hk,h3⟩:=Array.any_eq_true.1 h
 simp only [Bool.and_eq_true,beq_iff_eq] at h3
 exact ⟨_,Array.getElem_mem hk,h3.1,h3.2⟩
def waitN (l:List Oper):Nat→Nat→Nat→Bool
 | 0,i,j=>waitB l i j
 | f+1,i,j=>waitB l i j||(List.range l.length).any fun k=>waitB l i k&&waitN l f k j
def tailB (l:List Oper) (n:Nat):Bool:=(List.range l.length).all fun i=>decide (i<n)||(List.range i).all fun j=>waitN l 9 i j
def Closed (l:List Oper) (listed:Array Bool):Prop:=∀ (k:Nat) (o:Oper),l[k]? = some o→listed.getD k false=true→∀ e∈o.after,Region.binds .any e=true→listed.getD e.on false=true
theorem Closed.set {l:List Oper} {listed:Array Bool} {i:Nat} {o:Oper} (h:Closed l listed) (hi:l[i]? = some o) (hw:∀ e∈o.after,Region.binds .any e=true→listed.getD e.on false=true):Closed l (listed.setIfInBounds i true):=by
 have hmono:∀ j,listed.getD j false=true→(listed.setIfInBounds i true).getD j false=true:=fun j hj=>by
  by_cases hjz:j<listed.size
  ·by_cases e:i=j
   ·subst e;simp [Array.getD,hjz]
   ·simpa [Array.getD,hjz,Array.getElem_setIfInBounds,e] using hj
  ·simp [Array.getD,hjz] at hj
 intro k o' hk hl e he hb
 by_cases e1:k=i
 ·subst e1
  rw [hi] at hk;cases hk
  exact hmono _ (hw e he hb)
 ·refine hmono _ (h k o' hk ?_ e he hb)
  by_cases hkz:k<listed.size
  ·simpa [Array.getD,hkz,Array.getElem_setIfInBounds,Ne.symm e1] using hl
  ·simp [Array.getD,hkz] at hl
theorem waitN_listed {l:List Oper} {j:Nat} {listed:Array Bool} (hc:Closed l listed):∀ (f i:Nat) (o:Oper),waitN l f i j=true→l[i]? = some o→(∀ e∈o.after,Region.binds .any e=true→listed.getD e.on false=true)→listed.getD j false=true
 | 0,i,o,h,hi,hw=>by
  obtain ⟨e,he,hb,rfl⟩:=waitB_spec h hi
  exact hw e he hb
 | f+1,i,o,h,hi,hw=>by
  simp only [waitN,Bool.or_eq_true] at h
  rcases h with h | h
  ·obtain ⟨e,he,hb,rfl⟩:=waitB_spec h hi
   exact hw e he hb
  ·obtain ⟨k,hk,h3⟩:=List.any_eq_true.1 h
   simp only [Bool.and_eq_true] at h3
   obtain ⟨e,he,hb,rfl⟩:=waitB_spec h3.1 hi
   have hkl:e.on<l.length:=List.mem_range.1 hk
   exact waitN_listed hc f _ _ h3.2 (List.getElem?_eq_getElem hkl) (hc _ _ (List.getElem?_eq_getElem hkl) (hw e he hb))
theorem tail_waits' {l:List Oper} {n i j:Nat} {o:Oper} {listed:Array Bool} (h:tailB l n=true) (hi:l[i]? = some o) (hn:n≤i) (hj:j<i) (hc:Closed l listed) (hw:∀ e∈o.after,Region.binds .any e=true→listed.getD e.on false=true):listed.getD j false=true:=by
 have hil:i<l.length:=(List.getElem?_eq_some_iff.1 hi).1
 have h1:=List.all_eq_true.1 h i (List.mem_range.2 hil)
 simp only [Bool.or_eq_true,decide_eq_true_eq] at h1
 rcases h1 with h1 | h1
 ·omega
 ·exact waitN_listed hc 9 i o (List.all_eq_true.1 h1 j (List.mem_range.2 hj)) hi hw
section
variable {P:Program} {Q:Exit→Act→World→Prop}
theorem wpOp_of_list {l:List Oper} {i:Nat} {o:Oper} {rest:List Oper} {a:Act} {w:World} (hi:l[i]? = some o) (h:wpList P l.toArray Q (o::rest) a w):wpOp P l.toArray Q i (wpList P l.toArray Q rest) a w:=by
 have hi' : l.toArray[i]? = some o:=by simpa using hi
 unfold wpOp
 simp only [hi']
 exact h
end
end
section
open Go.RowKit
structure KP where
 p:Value→World→Prop
 k:∀ {v:Value} {W W' : World},p v W→Below W.heap.size W W' → p v W'
def KP.eq (u:Value):KP:=⟨fun v _=>v=u,fun h _=>h⟩
def KP.tt:KP:=⟨fun _ _=>True,fun _ _=>trivial⟩
def tab (f:Nat→Value):Nat→List Value→List Value
 | 0,acc=>acc
 | n+1,acc=>tab f n (f n::acc)
theorem tab_eq (f:Nat→Value):∀ (n:Nat) (acc:List Value),tab f n acc=(List.range n).map f++acc
 | 0,acc=>by simp [tab]
 | n+1,acc=>by rw [tab,tab_eq f n,List.range_succ];simp
theorem Facts.lit {D:List Nat} {F:Nat→Value→World→Prop} {a b:Act} {w W:World} {done:Nat→Bool} (h:Facts D F a w done b W) {n:Nat} (hn:a.tmps.size=n) (hd:a.defers=[]) :
  ∃ f:Nat→Value,b=⟨(tab f n []).toArray,[]⟩∧∀ t,b.tmps.getD t undef=f t :=
 ⟨fun t=>b.tmps.getD t undef,by rw [tab_eq,List.append_nil];exact act_lit (h.size.trans hn) (h.defers.trans hd),fun _=>rfl⟩
section
variable {P:Program} {Q:Exit→Act→World→Prop}
end
end
section
open Go.ChangeShapes Go.WideShapes Go.ChangeAt Go.RowKit
structure Cf where
 lg:Int
 th:Int
 po:Int
 wt:Int
 sp:Int
 yi:Int
 si:Bool
def Cf.cells (c:Cf):List Value:=[.int .i64 c.lg,.int .i64 c.th,.int .i64 c.po,.int .i64 c.wt,.int .i64 c.sp,.int .i64 c.yi,.bool c.si]
def Cf.shape:List (Ck 0):=[.int .i64,.int .i64,.int .i64,.int .i64,.int .i64,.int .i64,.bool]
abbrev Cf.size:Nat:=7
def Cf.ok (c:Cf):Prop:=In64 c.lg∧In64 c.th∧In64 c.po∧In64 c.wt∧In64 c.sp∧In64 c.yi
def Cf.zero:List Value:=[.int .i64 0,.int .i64 0,.int .i64 0,.int .i64 0,.int .i64 0,.int .i64 0,.bool false]
theorem Cf.of_read {W:World} {vs:List Value} (h:ReadL W Cf.shape vs):∃ c:Cf,vs=c.cells∧c.ok:=by
 simp only [Cf.shape,read_nil,read_cons,read_int,read_bool,read_str] at h
 obtain ⟨_,_,rfl,⟨lg,rfl,h0⟩,_,_,rfl,⟨th,rfl,h1⟩,_,_,rfl,⟨po,rfl,h2⟩,_,_,rfl,⟨wt,rfl,h3⟩,_,_,rfl,⟨sp,rfl,h4⟩,_,_,rfl,⟨yi,rfl,h5⟩,_,_,rfl,⟨si,rfl⟩,rfl⟩:=h
 exact ⟨⟨lg,th,po,wt,sp,yi,si⟩,rfl,in64_of_wf h0,in64_of_wf h1,in64_of_wf h2,in64_of_wf h3,in64_of_wf h4,in64_of_wf h5⟩
theorem Cf.enc:Enc 7 Cf.cells:=⟨fun _=>rfl,fun x c hc=>by simp [Cf.cells] at hc;rcases hc with rfl | rfl | rfl | rfl | rfl | rfl | rfl <;> rfl⟩
end
section
def intC (n:Int):List Value:=[.int .i64 n]
theorem intEnc:Enc 1 intC:=⟨fun _=>rfl,fun x c hc=>by simp [intC] at hc;subst hc;rfl⟩
theorem int_info:(Tryz.prog.info? 3).map (fun i=>(i.zero,i.size,i.bytes))=some (some (.int .i64 0),1,8):=by kernel_rfl
end
section
def intShape:List (Ck 0):=[.int .i64]
theorem int_of_read {W:World} {vs:List Value} (h:ReadL W intShape vs):∃ d:Int,vs=intC d∧In64 d:=by
 simp only [intShape,read_nil,read_cons,read_int,read_bool,read_str] at h
 obtain ⟨_,_,rfl,⟨a,rfl,h0⟩,rfl⟩:=h
 exact ⟨a,rfl,in64_of_wf h0⟩
end
section
def liesB (p r:Int):Bool:=decide (0≤p)&&decide (1≤r)
def placeI (p r:Int):Int:=if liesB p r then p % r else 0
def lapI (p r:Int):Int:=if liesB p r then p / r else 0
def emptyB (h t:Int):Bool:=decide (h=t)
def lenI (h t:Int):Int:=if t≤h then 0 else if t - h≤9223372036854775807 then t - h else 9223372036854775807
def checkB (h t m r:Int):Bool:=decide (0≤h)&&decide (h≤t)&&decide (t≤1099511627776)&&decide (0≤m)&&decide (m≤2)&&decide (lenI h t≤r)
def fullB (h t r:Int):Bool:=decide (r≤lenI h t)
theorem lies_of {p r:Int} (h:0≤p) (h' : 1≤r):liesB p r=true:=by simp [liesB,h,h']
theorem empty_t {h t:Int} (e:emptyB h t=true):h=t:=by simpa [emptyB] using e
theorem place_of {p r:Int} (h:0≤p) (h' : 1≤r):placeI p r=p % r:=by simp [placeI,lies_of h h']
theorem lap_of {p r:Int} (h:0≤p) (h' : 1≤r):lapI p r=p / r:=by simp [lapI,lies_of h h']
def rCheckB (h t m r:Int):Bool:=decide (0≤h)&&decide (h≤t)&&decide (t≤1099511627776)&&decide (t - h≤r)&&decide (0≤m)&&decide (m≤2)
def rPlaceI (p r:Int):Int:=if p<0∨r<1 then 0 else p - p / r * r
theorem check_ref {h t m r:Int} (hr:In64 r):checkB h t m r=rCheckB h t m r:=by
 unfold checkB rCheckB lenI In64 at *
 rw [Bool.eq_iff_iff]
 simp only [Bool.and_eq_true,decide_eq_true_eq]
 constructor
 ·intro ⟨⟨⟨⟨⟨a,b⟩,c⟩,d⟩,e⟩,f⟩
  split at f
  ·omega
  ·split at f <;> omega
 ·intro ⟨⟨⟨⟨⟨a,b⟩,c⟩,d⟩,e⟩,f⟩
  split
  ·omega
  ·split <;> omega
theorem place_ref {p r:Int}:placeI p r=rPlaceI p r:=by
 unfold rPlaceI
 split
 ·rename_i h
  have:liesB p r=false:=by simp [liesB];omega
  simp [placeI,this]
 ·rename_i h
  rw [place_of (by omega) (by omega),Int.emod_def,Int.mul_comm]
theorem place_bd {p r:Int} (h:0≤p) (h' : 1≤r):0≤placeI p r∧placeI p r<r:=by
 rw [place_of h h'];exact ⟨Int.emod_nonneg _ (by omega),Int.emod_lt_of_pos _ (by omega)⟩
theorem splits {p r:Int} (h:0≤p) (h' : 1≤r):p=lapI p r * r+placeI p r:=by
 rw [place_of h h',lap_of h h',Int.mul_comm];exact (Int.mul_ediv_add_emod p r).symm
theorem splits_one {p r a b:Int} (h:0≤p) (h' : 1≤r) (hb:0≤b) (hb' : b<r) (e:p=a * r+b):lapI p r=a∧placeI p r=b:=by
 have h1:placeI p r=b:=by
  rw [place_of h h',e,Int.add_comm,Int.add_mul_emod_self_right,Int.emod_eq_of_lt hb hb']
 refine ⟨?_,h1⟩
 rw [lap_of h h',e,Int.add_comm,Int.add_mul_ediv_right _ _ (by omega),Int.ediv_eq_zero_of_lt hb hb']
 omega
theorem laps_later {p r k:Int} (h:0≤p) (h' : 1≤r) (hk:0≤k):lapI (p+k * r) r=lapI p r+k∧placeI (p+k * r) r=placeI p r:=by
 have:=splits h h'
 have:=place_bd h h'
 have:0≤k * r:=Int.mul_nonneg hk (by omega)
 exact splits_one (by omega) h' (by omega) (by omega) (by rw [Int.add_mul];omega)
theorem check_len {h t m r:Int} (c:checkB h t m r=true):0≤h∧h≤t∧t≤1099511627776∧0≤m∧m≤2∧lenI h t=t - h∧t - h≤r:=by
 simp [checkB] at c
 have:lenI h t=t - h:=by unfold lenI;split <;> omega
 omega
end
section
open Go.ChangeShapes Go.WideShapes Go.ChangeAt Go.RowKit
theorem lies_any (p r:Int) (hp:In64 p) (hr:In64 r) (w:World) :
  Calls Tryz.prog 165 #[.int .i64 p,.int .i64 r] w fun e w' => e = .returned (.bool (liesB p r))∧Kept w w' := by
 go_enter Tryz.func165,Tryz.ntmps165
 go_wp2
 all_goals (go_ret;exact ⟨ret_bool (by first | (rw [Bool.eq_iff_iff];simp [liesB];omega) | (simp [liesB, *];done) | (simp [liesB, *];omega) | (simp [liesB, *];intros;omega)),by repeat' (first | (with_reducible exact Below.refl _ _) | (with_reducible assumption) | (with_reducible refine kept_alloc ?_ _) | (with_reducible refine kept_drewN ?_ _) | (with_reducible refine Below.drew ?_) | (with_reducible refine Below.setCell ?_ (by first | omega | (simp;omega) | (simp;done)) _) | (refine kept_trans ?_ (by with_reducible assumption)))⟩)
theorem place_any (p r:Int) (hp:In64 p) (hr:In64 r) (w:World) :
  Calls Tryz.prog 118 #[.int .i64 p,.int .i64 r] w fun e w' => e = .returned (.int .i64 (placeI p r))∧Kept w w' := by
 cases hl:liesB p r <;> (have hl' := hl;simp [liesB] at hl')
 all_goals
  go_enter Tryz.func118,Tryz.ntmps118
  go_wp2_with (go_at_call 165;refine (lies_any _ _ (by omega) (by omega) _).mono ?_;rintro e wx ⟨rfl,hgx⟩)
  all_goals (go_ret;exact ⟨ret_int (by first | (simp [placeI, *];done) | (simp [placeI, *];omega) | (simp [placeI, *];intros;omega)),by repeat' (first | (with_reducible exact Below.refl _ _) | (with_reducible assumption) | (with_reducible refine kept_alloc ?_ _) | (with_reducible refine kept_drewN ?_ _) | (with_reducible refine Below.drew ?_) | (with_reducible refine Below.setCell ?_ (by first | omega | (simp;omega) | (simp;done)) _) | (refine kept_trans ?_ (by with_reducible assumption)))⟩)
theorem empty_any (h t m:Int) (w:World) :
  Calls Tryz.prog 164 #[.agg #[.int .i64 h,.int .i64 t,.int .i64 m]] w fun e w' => e = .returned (.bool (emptyB h t))∧Kept w w' := by
 go_enter Tryz.func164,Tryz.ntmps164
 go_wp2
 all_goals (go_ret;exact ⟨ret_bool (by first | (rw [Bool.eq_iff_iff];simp [emptyB];omega) | (simp [emptyB, *];done) | (simp [emptyB, *];omega) | (simp [emptyB, *];intros;omega)),by repeat' (first | (with_reducible exact Below.refl _ _) | (with_reducible assumption) | (with_reducible refine kept_alloc ?_ _) | (with_reducible refine kept_drewN ?_ _) | (with_reducible refine Below.drew ?_) | (with_reducible refine Below.setCell ?_ (by first | omega | (simp;omega) | (simp;done)) _) | (refine kept_trans ?_ (by with_reducible assumption)))⟩)
theorem len_any (h t m:Int) (hh:In64 h) (ht:In64 t) (w:World) :
  Calls Tryz.prog 117 #[.agg #[.int .i64 h,.int .i64 t,.int .i64 m]] w fun e w' => e = .returned (.int .i64 (lenI h t))∧Kept w w' := by
 cases he:emptyB h t
 ·have he' : h≠t:=by simpa [emptyB] using he
  by_cases hlt:t<h
  ·go_enter Tryz.func117,Tryz.ntmps117
   go_wp2_with (first | (go_at_call 164;refine (empty_any _ _ _ _).mono ?_;rintro e wx ⟨rfl,hgx⟩;obtain ⟨hcx,hfx⟩:=bcell hgx;have hz0:w.heap.size<wx.heap.size:=(by have:=hgx.size;(try simp at this);omega)))
   all_goals (go_ret;exact ⟨ret_int (by first | (simp [lenI, *];done) | (simp [lenI, *];omega) | (simp [lenI, *];intros;omega)),by repeat' (first | (with_reducible exact Below.refl _ _) | (with_reducible assumption) | (with_reducible refine kept_alloc ?_ _) | (with_reducible refine kept_drewN ?_ _) | (with_reducible refine Below.drew ?_) | (with_reducible refine Below.setCell ?_ (by first | omega | (simp;omega) | (simp;done)) _) | (refine kept_trans ?_ (by with_reducible assumption)))⟩)
  ·by_cases hs:t - h≤9223372036854775807
   ·go_enter Tryz.func117,Tryz.ntmps117
    go_wp2_with (first | (go_at_call 164;refine (empty_any _ _ _ _).mono ?_;rintro e wx ⟨rfl,hgx⟩;obtain ⟨hcx,hfx⟩:=bcell hgx;have hz0:w.heap.size<wx.heap.size:=(by have:=hgx.size;(try simp at this);omega)))
    go_ret
    exact ⟨ret_int (by rw [lenI,if_neg (by omega),if_pos hs]),by repeat' (first | (with_reducible exact Below.refl _ _) | (with_reducible assumption) | (with_reducible refine kept_alloc ?_ _) | (with_reducible refine kept_drewN ?_ _) | (with_reducible refine Below.drew ?_) | (with_reducible refine Below.setCell ?_ (by first | omega | (simp;omega) | (simp;done)) _) | (refine kept_trans ?_ (by with_reducible assumption)))⟩
   ·have hw:¬ 0<wrap64 (t - h):=by unfold wrap64;omega
    go_enter Tryz.func117,Tryz.ntmps117
    go_wp2_with (first | (go_at_call 164;refine (empty_any _ _ _ _).mono ?_;rintro e wx ⟨rfl,hgx⟩;obtain ⟨hcx,hfx⟩:=bcell hgx;have hz0:w.heap.size<wx.heap.size:=(by have:=hgx.size;(try simp at this);omega)))
    go_ret
    exact ⟨ret_int (by rw [lenI,if_neg (by omega),if_neg (by omega)]),by repeat' (first | (with_reducible exact Below.refl _ _) | (with_reducible assumption) | (with_reducible refine kept_alloc ?_ _) | (with_reducible refine kept_drewN ?_ _) | (with_reducible refine Below.drew ?_) | (with_reducible refine Below.setCell ?_ (by first | omega | (simp;omega) | (simp;done)) _) | (refine kept_trans ?_ (by with_reducible assumption)))⟩
 ·go_enter Tryz.func117,Tryz.ntmps117
  go_wp2_with (first | (go_at_call 164;refine (empty_any _ _ _ _).mono ?_;rintro e wx ⟨rfl,hgx⟩;obtain ⟨hcx,hfx⟩:=bcell hgx;have hz0:w.heap.size<wx.heap.size:=(by have:=hgx.size;(try simp at this);omega)))
  go_ret
  exact ⟨ret_int (by rw [lenI,if_pos (by have:=empty_t he;omega)]),by repeat' (first | (with_reducible exact Below.refl _ _) | (with_reducible assumption) | (with_reducible refine kept_alloc ?_ _) | (with_reducible refine kept_drewN ?_ _) | (with_reducible refine Below.drew ?_) | (with_reducible refine Below.setCell ?_ (by first | omega | (simp;omega) | (simp;done)) _) | (refine kept_trans ?_ (by with_reducible assumption)))⟩
theorem full_any (h t m r:Int) (hh:In64 h) (ht:In64 t) (w:World) :
  Calls Tryz.prog 290 #[.agg #[.int .i64 h,.int .i64 t,.int .i64 m],.int .i64 r] w fun e w' => e = .returned (.bool (fullB h t r))∧Kept w w' := by
 go_enter Tryz.func290,Tryz.ntmps290
 go_wp2_with (first | (go_at_call 117;refine (len_any _ _ _ (by omega) (by omega) _).mono ?_;rintro e wx ⟨rfl,hgx⟩;obtain ⟨hcx,hfx⟩:=bcell hgx;have hz0:w.heap.size<wx.heap.size:=(by have:=hgx.size;(try simp at this);omega)))
 all_goals (go_ret;exact ⟨ret_bool (by first | (rw [Bool.eq_iff_iff];simp [fullB];omega) | (simp [fullB, *];done) | (simp [fullB, *];omega) | (simp [fullB, *];intros;omega)),by repeat' (first | (with_reducible exact Below.refl _ _) | (with_reducible assumption) | (with_reducible refine kept_alloc ?_ _) | (with_reducible refine kept_drewN ?_ _) | (with_reducible refine Below.drew ?_) | (with_reducible refine Below.setCell ?_ (by first | omega | (simp;omega) | (simp;done)) _) | (refine kept_trans ?_ (by with_reducible assumption)))⟩)
theorem check_any (h t m r:Int) (hh:In64 h) (ht:In64 t) (hm:In64 m) (hr:In64 r) (w:World) :
  Calls Tryz.prog 62 #[.agg #[.int .i64 h,.int .i64 t,.int .i64 m],.int .i64 r] w fun e w' => e = .returned (.bool (checkB h t m r))∧Kept w w' := by
 go_enter Tryz.func62,Tryz.ntmps62
 go_wp2_with (first | (go_at_call 117;refine (len_any _ _ _ (by omega) (by omega) _).mono ?_;rintro e wx ⟨rfl,hgx⟩;obtain ⟨hcx,hfx⟩:=bcell hgx;have hz0:w.heap.size<wx.heap.size:=(by have:=hgx.size;(try simp at this);omega)) | go_in)
 all_goals (go_ret;exact ⟨ret_bool (by first | (rw [Bool.eq_iff_iff];simp [checkB];omega) | (simp [checkB, *];done) | (simp [checkB, *];omega) | (simp [checkB, *];intros;omega)),by repeat' (first | (with_reducible exact Below.refl _ _) | (with_reducible assumption) | (with_reducible refine kept_alloc ?_ _) | (with_reducible refine kept_drewN ?_ _) | (with_reducible refine Below.drew ?_) | (with_reducible refine Below.setCell ?_ (by first | omega | (simp;omega) | (simp;done)) _) | (refine kept_trans ?_ (by with_reducible assumption)))⟩)
theorem rcheck_any (h t m r:Int) (hh:In64 h) (ht:In64 t) (hm:In64 m) (hr:In64 r) (w:World) :
  Calls Tryz.prog 82 #[.agg #[.int .i64 h,.int .i64 t,.int .i64 m],.int .i64 r] w fun e w' => e = .returned (.bool (rCheckB h t m r))∧Kept w w' := by
 go_enter Tryz.func82,Tryz.ntmps82
 go_wp2
 all_goals (go_ret;exact ⟨ret_bool (by first | (rw [Bool.eq_iff_iff];simp [rCheckB];omega) | (simp [rCheckB, *];done) | (simp [rCheckB, *];omega) | (simp [rCheckB, *];intros;omega)),by repeat' (first | (with_reducible exact Below.refl _ _) | (with_reducible assumption) | (with_reducible refine kept_alloc ?_ _) | (with_reducible refine kept_drewN ?_ _) | (with_reducible refine Below.drew ?_) | (with_reducible refine Below.setCell ?_ (by first | omega | (simp;omega) | (simp;done)) _) | (refine kept_trans ?_ (by with_reducible assumption)))⟩)
theorem rplace_any (p r:Int) (hp:In64 p) (hr:In64 r) (w:World) :
  Calls Tryz.prog 140 #[.int .i64 p,.int .i64 r] w fun e w' => e = .returned (.int .i64 (rPlaceI p r))∧Kept w w' := by
 by_cases hc:p<0∨r<1
 ·go_enter Tryz.func140,Tryz.ntmps140
  go_wp2
  all_goals (go_ret;exact ⟨ret_int (by rw [rPlaceI,if_pos hc]),by repeat' (first | (with_reducible exact Below.refl _ _) | (with_reducible assumption) | (with_reducible refine kept_alloc ?_ _) | (with_reducible refine kept_drewN ?_ _) | (with_reducible refine Below.drew ?_) | (with_reducible refine Below.setCell ?_ (by first | omega | (simp;omega) | (simp;done)) _) | (refine kept_trans ?_ (by with_reducible assumption)))⟩)
 ·have h1:0≤p / r:=Int.ediv_nonneg (by omega) (by omega)
  have h2:p / r≤p:=Int.ediv_le_self _ (by omega)
  have h3:p / r * r≤p:=Int.ediv_mul_le _ (by omega)
  have h4:0≤p / r * r:=Int.mul_nonneg h1 (by omega)
  have h5:¬ p<0:=by omega
  have h6:¬ r<1:=by omega
  go_enter Tryz.func140,Tryz.ntmps140
  go_wp2
  all_goals (go_ret;exact ⟨ret_int (by rw [rPlaceI,if_neg (by omega)]),by repeat' (first | (with_reducible exact Below.refl _ _) | (with_reducible assumption) | (with_reducible refine kept_alloc ?_ _) | (with_reducible refine kept_drewN ?_ _) | (with_reducible refine Below.drew ?_) | (with_reducible refine Below.setCell ?_ (by first | omega | (simp;omega) | (simp;done)) _) | (refine kept_trans ?_ (by with_reducible assumption)))⟩)
end
section
structure Slo where
 st:Int
 vl:Int
def Slo.cells (s:Slo):List Value:=[.int .i64 s.st,.int .i64 s.vl]
theorem Slo.enc:Enc 2 Slo.cells:=⟨fun _=>rfl,fun x c hc=>by simp [Slo.cells] at hc;rcases hc with rfl | rfl <;> rfl⟩
instance sloEq:DecidableEq Slo:=fun a b=>decidable_of_iff (a.st=b.st∧a.vl=b.vl) (by cases a;cases b;simp)
def gs (l:List Slo) (i:Nat):Slo:=l.getD i ⟨0,0⟩
theorem gs_some {l:List Slo} {i:Nat} (h:i<l.length):l[i]? = some (gs l i):=by simp [gs,h]
theorem gs_eq {l:List Slo} {i:Nat} (h:i<l.length):gs l i=l[i]:=by simp [gs,h]
theorem gs_set {l:List Slo} {i j:Nat} {s:Slo} (h:i<l.length):gs (l.set i s) j=if i=j then s else gs l j:=by
 simp only [gs,List.getD_eq_getElem?_getD,List.getElem?_set]
 by_cases e:i=j
 ·subst e;simp [h]
 ·simp [e]
def ringB (r:Int):Bool:=decide (1≤r)&&decide (r≤64)
def newL (r:Int):List Slo:=if ringB r=true then (List.range r.toNat).map fun (i:Nat)=>(⟨(i:Int),0⟩:Slo) else []
def slotB (n i:Nat) (s:Slo):Bool:=decide (0≤s.st)&&decide (s.st≤2199023255552)&&placeI s.st n==i
def okSl (l:List Slo):Bool:=ringB l.length&&(List.range l.length).all fun i=>slotB l.length i (gs l i)
def liesS (l:List Slo) (p:Int):Bool:=decide (0≤p)&&okSl l
def plc (l:List Slo) (p:Int):Nat:=(placeI p l.length).toNat
def rdyB (l:List Slo) (p:Int):Bool:=liesS l p&&(gs l (plc l p)).st==p
def wrE (l:List Slo) (p:Int):Int:=if liesS l p=false then 40 else if rdyB l p=false then 30 else 0
def wrL (l:List Slo) (p v:Int):List Slo:=if rdyB l p=true then l.set (plc l p) ⟨p,v⟩ else l
def rdE (l:List Slo) (p:Int):Int:=if rdyB l p=true then 0 else 40
def rdV (l:List Slo) (p:Int):Int:=if rdyB l p=true then (gs l (plc l p)).vl else 0
def rlB (l:List Slo) (p:Int):Bool:=rdyB l p&&decide (p≤1099511627776)
def rlE (l:List Slo) (p:Int):Int:=if rlB l p=true then 0 else 40
def rlL (l:List Slo) (p:Int):List Slo:=if rlB l p=true then l.set (plc l p) ⟨p+l.length,(gs l (plc l p)).vl⟩ else l
theorem ring_iff {r:Int}:ringB r=true↔1≤r∧r≤64:=by simp [ringB]
theorem slot_iff {n i:Nat} {s:Slo}:slotB n i s=true↔0≤s.st∧s.st≤2199023255552∧placeI s.st n=i:=by simp [slotB,and_assoc]
theorem ok_iff {l:List Slo}:okSl l=true↔(1≤l.length∧l.length≤64)∧∀ i,i<l.length→slotB l.length i (gs l i)=true:=by
 unfold okSl
 rw [Bool.and_eq_true,ring_iff,List.all_eq_true]
 simp only [List.mem_range]
 constructor
 ·rintro ⟨h1,h2⟩;exact ⟨by omega,h2⟩
 ·rintro ⟨h1,h2⟩;exact ⟨by omega,h2⟩
theorem lies_iff {l:List Slo} {p:Int}:liesS l p=true↔0≤p∧okSl l=true:=by simp [liesS]
theorem plc_lt {l:List Slo} {p:Int} (h:liesS l p=true):plc l p<l.length∧placeI p l.length=(plc l p:Int):=by
 obtain ⟨h1,h2⟩:=lies_iff.1 h
 have:=(ok_iff.1 h2).1
 have:=place_bd h1 (show (1:Int)≤(l.length:Int) by omega)
 unfold plc
 omega
theorem rdy_lies {l:List Slo} {p:Int} (h:rdyB l p=true):liesS l p=true∧(gs l (plc l p)).st=p:=by
 simpa [rdyB] using h
theorem rdy_iff {l:List Slo} {p:Int}:rdyB l p=true↔liesS l p=true∧(gs l (plc l p)).st=p:=by simp [rdyB]
abbrev sts (l:List Slo):List Int:=l.map Slo.st
theorem sts_len {l m:List Slo} (h:sts l=sts m):l.length=m.length:=by simpa using congrArg List.length h
theorem sts_gs {l m:List Slo} (h:sts l=sts m) (i:Nat):(gs l i).st=(gs m i).st:=by
 have hl:=sts_len h
 by_cases hi:i<l.length
 ·rw [gs_eq hi,gs_eq (by omega)]
  have h1:=congrArg (·[i]?) h
  simp only [sts,List.getElem?_map,List.getElem?_eq_getElem hi,List.getElem?_eq_getElem (show i<m.length by omega),Option.map_some,Option.some.injEq] at h1
  exact h1
 ·simp [gs,List.getElem?_eq_none (show l.length≤i by omega),List.getElem?_eq_none (show m.length≤i by omega)]
theorem ok_sts {l m:List Slo} (h:sts l=sts m):okSl l=okSl m:=by
 rw [Bool.eq_iff_iff,ok_iff,ok_iff,sts_len h]
 refine and_congr_right fun _=>forall₂_congr fun i _=>?_
 rw [slot_iff,slot_iff,sts_gs h]
theorem wr_sts (l:List Slo) (p v:Int):sts (wrL l p v)=sts l:=by
 unfold wrL
 split
 ·rename_i h
  obtain ⟨h1,h2⟩:=rdy_lies h
  have h3:=(plc_lt h1).1
  apply List.ext_getElem?
  intro j
  simp only [sts,List.getElem?_map,List.getElem?_set]
  by_cases e:plc l p=j
  ·subst e
   rw [if_pos rfl,if_pos h3,List.getElem?_eq_getElem h3,← gs_eq h3]
   simp [h2]
  ·rw [if_neg e]
 ·rfl
theorem wr_len (l:List Slo) (p v:Int):(wrL l p v).length=l.length:=sts_len (wr_sts l p v)
theorem rl_len (l:List Slo) (p:Int):(rlL l p).length=l.length:=by unfold rlL;split <;> simp
theorem place_lap {p n:Int} (h:0≤p) (hn:1≤n):placeI (p+n) n=placeI p n:=by
 have:=(laps_later h hn (show (0:Int)≤1 by omega)).2
 rwa [Int.one_mul] at this
theorem rl_laid {a:List Slo} {p:Int} (h:rdyB a p=true) (hp:p≤1099511627776) :
  okSl (rlL a p)=true∧rlE a p=0∧rdyB (rlL a p) p=false∧rdyB (rlL a p) (p+a.length)=true∧rlL a p=a.set (plc a p) ⟨p+a.length,(gs a (plc a p)).vl⟩:=by
 obtain ⟨h1,h2⟩:=rdy_lies h
 obtain ⟨h3,h4⟩:=plc_lt h1
 obtain ⟨h5,h6⟩:=lies_iff.1 h1
 obtain ⟨h7,h8⟩:=ok_iff.1 h6
 have hB:rlB a p=true:=by simp [rlB,h,hp]
 have hL:rlL a p=a.set (plc a p) ⟨p+a.length,(gs a (plc a p)).vl⟩:=by unfold rlL;rw [if_pos hB]
 have hlap:placeI (p+a.length) a.length=(plc a p:Int):=by rw [place_lap h5 (by omega)];exact h4
 have hok:okSl (rlL a p)=true:=by
  rw [ok_iff,rl_len]
  refine ⟨h7,fun i hi=>?_⟩
  rw [hL,gs_set h3]
  split
  ·rename_i e
   subst e
   exact slot_iff.2 ⟨by simp only;omega,by simp only;omega,hlap⟩
  ·exact h8 i hi
 have hg:∀ q:Int,placeI q a.length=(plc a p:Int)→gs (rlL a p) (plc (rlL a p) q)=⟨p+a.length,(gs a (plc a p)).vl⟩:=by
  intro q hq
  have:plc (rlL a p) q=plc a p:=by unfold plc at *;rw [rl_len,hq];omega
  rw [this,hL,gs_set h3,if_pos rfl]
 refine ⟨hok,by simp [rlE,hB],?_,?_,hL⟩
 ·unfold rdyB
  rw [hg p h4]
  simp;intro _;omega
 ·rw [rdy_iff,hg _ hlap]
  exact ⟨lies_iff.2 ⟨by omega,hok⟩,rfl⟩
theorem new_len {k:Nat} (h:1≤k∧k≤64):(newL k).length=k:=by
 unfold newL;rw [if_pos (ring_iff.2 (by omega))];simp
theorem new_gs {k:Nat} (h:1≤k∧k≤64) {i:Nat} (hi:i<k):gs (newL k) i=⟨i,0⟩:=by
 unfold newL;rw [if_pos (ring_iff.2 (by omega))];simp [gs,hi]
theorem place_small {i k:Nat} (hi:i<k):placeI i k=i:=by
 rw [place_of (by omega) (by omega)]
 exact Int.emod_eq_of_lt (by omega) (by omega)
theorem new_ok {k:Nat} (h:1≤k∧k≤64):okSl (newL k)=true:=by
 rw [ok_iff,new_len h]
 refine ⟨h,fun i hi=>?_⟩
 rw [new_gs h hi]
 exact slot_iff.2 ⟨by simp only;omega,by simp only;omega,place_small hi⟩
end
section
open Go.ChangeShapes Go.WideShapes Go.ChangeAt Go.RowKit
def Slo.shape:List (Ck 0):=[.int .i64,.int .i64]
abbrev Slo.size:Nat:=2
def Slo.ok (d:Slo):Prop:=In64 d.st∧In64 d.vl
def Slo.zero:List Value:=[.int .i64 0,.int .i64 0]
theorem Slo.of_read {W:World} {vs:List Value} (h:ReadL W Slo.shape vs):∃ d:Slo,vs=d.cells∧d.ok:=by
 simp only [Slo.shape,read_nil,read_cons,read_int,read_bool,read_str] at h
 obtain ⟨_,_,rfl,⟨a,rfl,h0⟩,_,_,rfl,⟨b,rfl,h1⟩,rfl⟩:=h
 exact ⟨⟨a,b⟩,rfl,in64_of_wf h0,in64_of_wf h1⟩
end
section
structure Qu where
 vals:List Int
 cap:Int
 pol:Int
 mode:Int
structure En where
 th:Int
 ki:Int
 va:Int
 re:Int
 go:Int
def En.cells (e:En):List Value:=[.int .i64 e.th,.int .i64 e.ki,.int .i64 e.va,.int .i64 e.re,.int .i64 e.go]
def sendsB (k:Int):Bool:=decide (1≤k)&&decide (k≤3)
def recvsB (k:Int):Bool:=decide (4≤k)&&decide (k≤6)
def Qu.full (q:Qu):Bool:=decide (q.cap≤q.vals.length)
def Qu.with (q:Qu) (l:List Int):Qu:=⟨l,q.cap,q.pol,q.mode⟩
def Qu.gone (q:Qu) (n:Int):Qu×Bool :=
 match q.vals with
 | []=>(q,false)
 | v::r=>if v=n then (q.with r,true) else (q,false)
def Qu.send (q:Qu) (e:En):Qu×Bool :=
 if e.re=1 then (if decide (q.mode≠0)||q.full then (q,false) else (q.with (q.vals++[e.va]),true))
 else if e.re=2 then (q,decide (q.mode=0)&&q.full&&decide (q.pol=0)&&decide (e.ki=2))
 else if e.re=3 then (q,decide (q.mode=0)&&q.full&&decide (q.pol=1))
 else if e.re=5 then (q,decide (e.ki=3))
 else if e.re=6 then (q,decide (q.mode=1))
 else if e.re=7 then (q,decide (q.mode=2))
 else (q,false)
def Qu.recv (q:Qu) (e:En):Qu×Bool :=
 if e.re=1 then (if q.mode=2 then (q,false) else q.gone e.go)
 else if e.re=4 then (q,decide (q.mode=0)&&decide (q.vals.length=0)&&decide (e.ki=5))
 else if e.re=5 then (q,decide (e.ki=6))
 else if e.re=6 then (q,decide (q.mode=1)&&decide (q.vals.length=0))
 else if e.re=7 then (q,decide (q.mode=2))
 else (q,false)
def drainI (m:Int):Int:=if m=0 then 1 else m
def Qu.tell (q:Qu) (e:En):Qu×Bool :=
 if sendsB e.ki then q.send e
 else if recvsB e.ki then q.recv e
 else if e.re≠1 then (q,false)
 else if e.ki=7 then (⟨q.vals,q.cap,q.pol,drainI q.mode⟩,true)
 else if e.ki=8 then (⟨q.vals,q.cap,q.pol,2⟩,true)
 else if e.ki=9 then (if q.mode≠0∨q.pol≠2∨(q.vals.length:Int)<q.cap then (q,false) else q.gone e.go)
 else (q,false)
def Qu.all (q:Qu):List En→Qu×Nat
 | []=>(q,0)
 | e::l=>if (q.tell e).2 then (((q.tell e).1.all l).1,((q.tell e).1.all l).2+1) else (q,0)
end
end Go.Proofs.YtbckpadeamlidaaGreat
