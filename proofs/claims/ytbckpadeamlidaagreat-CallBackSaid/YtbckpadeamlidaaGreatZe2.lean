/- Texts merged: EngAT, EngCT, EngRT, EngLT. -/
import Derived.Test.YtbckpadeamlidaaGreatZe1
import Derived.Laws.MakeOwn
import Derived.LoopN
import Derived.ScopeJumps
namespace Go.Proofs.YtbckpadeamlidaaGreat
set_option linter.unusedVariables false
set_option linter.unusedSimpArgs false
set_option maxRecDepth 100000
section
open Go.RowKit
def AllK (k:Nat) (els:List Value):Prop:=∀ el∈els,el.cells.size=k∧el.cells.toList.all leafB=true
def AppP (L:Nat) (els:List Value) (n:Nat) (xs:List Value) (m:Nat) (ys:List Value):Prop:=L=n+m∧els=xs++ys∧n+m≤1048576
def SubP (L:Nat) (els:List Value) (n:Nat) (xs:List Value) (a b:Int):Prop:=0≤a∧a≤b∧b≤n∧(L:Int)=b - a∧els=(xs.drop a.toNat).take L
def appX (H:Nat→Option Blk) (k:Nat):Value→Option (List Value×Nat×List Nat×List Prop)
 | .iface 1000000 (.func (.yield m) els _)=>some (els.toList,m,[],[AllK k els.toList])
 | .slice (some ⟨j,0,some 0⟩) m _=>match H j with
  | some b=>if b.arr&&b.k==k then some (b.els,m,[j],[m=b.els.length,AllK k b.els]) else none
  | none=>none
 | .slice none 0 0=>some ([],0,[],[])
 | _=>none
def evAppend (P:Program) (ats:List TypeId) (s x:Value) (H:Nat→Option Blk) (nx:Nat) (orc:List Value):EeR :=
 match ats with
 | [t,t']=>match P.underlying t with
  | some (.slice e)=>match P.info? e with
   | some i=>match i.zero with
    | some z=>if t==t' && decide (0<i.size)&&decide (z.cells.size=i.size)&&Nat.ble i.bytes 4096 then
     match appX H i.size x with
     | some (ys,m,rd,ob)=>match s with
      | .slice none 0 0=>match orc with
       | .iface 1000000 (.func (.yield L) els _)::orc' => some (.slice (some ⟨nx,0,some 0⟩) L 0,rd,[(nx,some ⟨true,true,i.size,L,els.toList⟩)],nx+1,orc',ob++[0<m∧AppP L els.toList 0 [] m ys])
       | .slice none 0 0::orc' => some (.slice none 0 0,rd,[],nx,orc',ob++[m=0])
       | _=>none
      | .slice (some ⟨i0,0,some 0⟩) n _=>match H i0 with
       | some b=>if b.arr&&b.w&&b.k==i.size && !(rd.any fun j=>j==i0) then match orc with
        | .iface 1000000 (.func (.yield L) els _)::orc' => some (.slice (some ⟨nx,0,some 0⟩) L 0,i0::rd,[(nx,some ⟨true,true,i.size,L,els.toList⟩),(i0,none)],nx+1,orc',ob++[n=b.els.length,AppP L els.toList n b.els m ys])
        | _=>none
        else none
       | none=>none
      | _=>none
     | none=>none
     else none
    | none=>none
   | none=>none
  | _=>none
 | _=>none
def evBuildS (P:Program) (t:TypeId) (len:Nat) (parts:List (Nat×Value)) (nx:Nat) (orc:List Value):EeR :=
 match P.underlying t with
 | some (.slice e)=>match P.info? e with
  | some i=>match i.zero with
   | some z=>if decide (0<i.size)&&decide (z.cells.size=i.size)&&z.cells.toList.all zOk&&Nat.ble (len * i.size) 65536&&parts.all (fun p=>okV p.2) then
    match Instr.fill (fun j=>some (j * i.size,i.size)) ((Array.range (len * i.size)).map (z.cells[· % z.cells.size]!)) parts with
    | some cells=>if cells.toList.all leafB&&cells.toList.all closedB&&decide (cells.size=len * i.size) then
     some (.slice (some ⟨nx,0,some 0⟩) len 0,[],[(nx,some ⟨true,true,i.size,len,(List.range len).map fun n=>mkEl i.size ((cells.toList.drop (n * i.size)).take i.size)⟩)],nx+1,orc,[]) else none
    | none=>none
    else none
   | none=>none
  | none=>none
 | _=>none
def bndV:Option Value→Option (Option Int)
 | none=>some none
 | some (.int _ n)=>some (some n)
 | some _=>none
def evSub (P:Program) (t:TypeId) (x:Value) (lo hi:Option Value) (orc:List Value):EvR :=
 match P.underlying t with
 | some (.slice e)=>match tySz P e with
  | some sz=>match x with
   | .iface 1000000 (.func (.yield n) xs _)=>match bndV lo,bndV hi with
    | some a,some b=>match orc with
     | .iface 1000000 (.func (.yield L) els zs)::orc' => if zs.isEmpty then some (.iface 1000000 (.func (.yield L) els zs),[],orc',[SubP L els.toList n xs.toList (a.getD 0) (b.getD n),AllK sz xs.toList]) else none
     | _=>none
    | _,_=>none
   | _=>none
  | none=>none
 | _=>none
def MakeP (l c:Int) (L:Nat) (els:List Value) (z:Value):Prop:=l=L∧l≤c∧c≤1048576∧els=List.replicate L z
def evMake (P:Program) (t:TypeId) (lv cv:Value) (nx:Nat) (orc:List Value):EeR :=
 match P.underlying t with
 | some (.slice e)=>match P.info? e with
  | some i=>match i.zero with
   | some z=>if decide (0<i.size)&&decide (z.cells.size=i.size)&&z.cells.toList.all zOk&&z.cells.toList.all leafB&&z.cells.toList.all closedB&&Nat.ble i.bytes 4096 then
    match lv,cv with
    | .int _ l,.int _ c=>match orc with
     | .iface 1000000 (.func (.yield L) els _)::orc' => some (.slice (some ⟨nx,0,some 0⟩) L 0,[],[(nx,some ⟨true,true,i.size,L,els.toList⟩)],nx+1,orc',[MakeP l c L els.toList (mkEl i.size z.cells.toList)])
     | _=>none
    | _,_=>none
    else none
   | none=>none
  | none=>none
 | _=>none
def evCopy (P:Program) (ats:List TypeId) (d x:Value) (H:Nat→Option Blk) (nx:Nat) (orc:List Value):EeR :=
 match ats with
 | [t,_]=>match P.underlying t with
  | some (.slice e)=>match P.info? e with
   | some i=>if decide (0<i.size) then
    match appX H i.size x with
    | some (ys,m,rd,ob)=>match d with
     | .slice (some ⟨i0,0,some 0⟩) n _=>match H i0 with
      | some b=>if b.arr&&b.w&&b.k==i.size && !(rd.any fun j=>j==i0) then some (.int .i64 m,i0::rd,[(i0,some { b with n:=m,els:=ys })],nx,orc,ob++[m=n∧n=b.els.length]) else none
      | none=>none
     | _=>none
    | none=>none
    else none
   | none=>none
  | _=>none
 | _=>none
def evEff2 (P:Program) (op:Op) (e:Operand→Value) (H:Nat→Option Blk) (nx:Nat) (orc:List Value):EeR :=
 match op with
 | .call { callee:=.builtin .append,args,argTypes }=>match args.toList with
  | [s,x]=>evAppend P argTypes.toList (e s) (e x) H nx orc
  | _=>none
 | .call { callee:=.builtin .copy,args,argTypes }=>match args.toList with
  | [d,x]=>evCopy P argTypes.toList (e d) (e x) H nx orc
  | _=>none
 | .buildSlice t len parts=>evBuildS P t len (parts.toList.map fun p=>(p.1,e p.2)) nx orc
 | .slice t x lo hi none=>(evSub P t (e x) (lo.map e) (hi.map e) orc).map fun r=>(r.1,r.2.1,[],nx,r.2.2.1,r.2.2.2)
 | .makeSlice t l c=>evMake P t (e l) (e c) nx orc
 | .makeMap t none=>evMkMap P t nx orc
 | .mapUpdate t m k v=>evMapUp P t (e m) (e k) (e v) H nx orc
 | .insert t m k v=>evMapUp P t (e m) (e k) (e v) H nx orc
 | .lookup t m k ok=>(evLookup P t (e m) (e k) ok H orc).map fun r=>(r.1,r.2.1,[],nx,r.2.2.1,r.2.2.2)
 | op=>evEff P op e H nx orc
section
variable {P:Program} {ρ:PMap} {O:Nat→Prop} {W:World}
structure News (O:Nat→Prop) (W:World) (k:Nat) (ys:List Value) (news:List Value):Prop where
 len:news.length=ys.length * k
 el:∀ (p:Nat) (el:Value),ys[p]? = some el→el.cells.size=k∧∀ (j:Nat) (x:Value),el.cells[j]? = some x→∃ u,news[p * k+j]? = some u∧Rp nowhere O W x u
 one:∀ u∈news,u.oneCell' = true
structure Olds (O:Nat→Prop) (W:World) (k:Nat) (ys:List Value) (olds:List Value):Prop where
 len:olds.length=ys.length * k
 el:∀ (p:Nat) (el:Value),ys[p]? = some el→el.cells.size=k∧∀ (j:Nat) (x:Value),el.cells[j]? = some x→∃ u,olds[p * k+j]? = some u∧Rp nowhere O W x u
theorem news_of {g o k:Nat} {ys:List Value} (hk:0<k) (hall:AllK k ys) (hc:∀ (n:Nat) (el:Value),ys[n]? = some el→CellsRep (Rp nowhere O W) W g (o+n * k) el.cells):∃ news,News O W k ys news∧∀ j u,news[j]? = some u→W.cell? ⟨g,o+j,none⟩=some u:=by
 have ex:∀ i,i<ys.length * k→∃ u,W.cell? ⟨g,o+i,none⟩=some u∧u.oneCell' = true∧∀ el x,ys[i / k]? = some el→el.cells[i % k]? = some x→Rp nowhere O W x u:=fun i hi=>by
  have hp:i / k<ys.length:=by rw [Nat.div_lt_iff_lt_mul hk];exact hi
  have hm:=Nat.mod_lt i hk
  obtain ⟨h1,h2⟩:=hall ys[i / k] (List.getElem_mem hp)
  have hj:i % k<ys[i / k].cells.size:=by rw [h1];exact hm
  obtain ⟨u,hu,hr⟩:=hc (i / k) ys[i / k] (List.getElem?_eq_getElem hp) (i % k) ys[i / k].cells[i % k] (by simp [hj])
  have he:o+i / k * k+i % k=o+i:=by have:=Nat.div_add_mod i k;rw [Nat.mul_comm] at this;omega
  rw [he] at hu
  refine ⟨u,hu,rp_leaf hr (List.all_eq_true.1 h2 _ (by simp)),fun el x h3 h4=>?_⟩
  rw [List.getElem?_eq_getElem hp] at h3;cases h3
  rw [Array.getElem?_eq_getElem hj] at h4;cases h4
  exact hr
 refine ⟨(List.range (ys.length * k)).map fun i=>(W.cell? ⟨g,o+i,none⟩).getD undef,⟨by simp,fun p el hel=>⟨(hall el (List.mem_of_getElem? hel)).1,fun j x hx=>?_⟩,fun u hu=>?_⟩,fun j u hu=>?_⟩
 ·have hp:=(List.getElem?_eq_some_iff.1 hel).1
  have hj:j<k:=by rw [← (hall el (List.mem_of_getElem? hel)).1];exact (Array.getElem?_eq_some_iff.1 hx).1
  have hlt:p * k+j<ys.length * k:=by
   have:=Nat.mul_le_mul_right k (show p+1≤ys.length from hp)
   rw [Nat.add_mul] at this;omega
  obtain ⟨u,hu,-,hr⟩:=ex _ hlt
  have e1:(p * k+j) / k=p:=by rw [Nat.mul_comm,Nat.mul_add_div hk,Nat.div_eq_of_lt hj];simp
  have e2:(p * k+j) % k=j:=by rw [Nat.mul_comm,Nat.mul_add_mod,Nat.mod_eq_of_lt hj]
  exact ⟨u,by simp [hlt,hu],hr el x (by rw [e1];exact hel) (by rw [e2];exact hx)⟩
 ·obtain ⟨i,hi,rfl⟩:=List.mem_map.1 hu
  obtain ⟨u,hu,h1,-⟩:=ex i (by simpa using hi)
  rw [hu];exact h1
 ·have hj:j<ys.length * k:=by have:=(List.getElem?_eq_some_iff.1 hu).1;simpa using this
  obtain ⟨u',hu',-,-⟩:=ex j hj
  simp only [List.getElem?_map,List.getElem?_range hj,Option.map_some,Option.some.injEq,hu',Option.getD_some] at hu
  rw [hu',hu]
theorem first_news {k m:Nat} {a:Addr} {cap:Nat} {news:List Value} (hl:news.length=m * k) (hc:∀ j u,news[j]? = some u→W.cell? (a.add j)=some u) {W1:World} (h1:W1.heap=W.heap):(Builtin.firstCells k m (.slice (some a) m cap)).run P W1 = .ok news.toArray W1 :=
 run_firstCells_some (P:=P) W1 k m a m cap news hl fun j u hu=>by rw [← hc j u hu];simp [World.cell?,h1]
theorem first_none {k:Nat} (p:Option Addr) (cap:Nat) {W1:World}:(Builtin.firstCells k 0 (.slice p 0 cap)).run P W1 = .ok #[] W1:=by
 cases p with
 | none=>simp [Builtin.firstCells]
 | some a=>simpa using run_firstCells_some (P:=P) W1 k 0 a 0 cap [] (by simp) (by simp)
theorem News.nil {k:Nat}:News O W k [] []:=⟨by simp,fun p el h=>by simp at h,fun u h=>by simp at h⟩
theorem appX_ok {H:Nat→Option Blk} {k:Nat} {x c:Value} {ys:List Value} {m:Nat} {rd:List Nat} {ob:List Prop} (hk:0<k) (h:appX H k x=some (ys,m,rd,ob)) (hob:conj ob) (hr:Rp ρ O W x c) (hH:∀ i∈rd,HAt ρ O W i (H i)) :
  m=ys.length∧(∃ p cap,c = .slice p m cap)∧∃ news,News O W k ys news∧∀ W1:World,W1.heap=W.heap→(Builtin.firstCells k m c).run P W1 = .ok news.toArray W1:=by
 unfold appX at h
 split at h
 ·next m els zs =>
  cases h
  obtain ⟨p,cap,-,hn,hc,h1,h2,h3,h4⟩:=rp_row.1 hr
  refine ⟨by simpa using hn,⟨p,cap,hn ▸ hc⟩,?_⟩
  by_cases h0:els.size=0
  ·have he:els=#[]:=Array.eq_empty_of_size_eq_zero h0
   subst he
   subst hn hc
   exact ⟨[],News.nil,fun W1 _=>first_none p cap⟩
  ·obtain ⟨g,o,k',rfl,-,-,hcell⟩:=h4 h0
   have hk' : k' = k:=by
    have h5:=(hcell 0 els[0] (by simp [show 0<els.size by omega])).1
    have h6:=(hob.1 els[0] (by simp)).1
    omega
   subst hk'
   obtain ⟨news,hN,hcc⟩:=news_of (O:=O) (W:=W) (g:=g) (o:=o) hk hob.1 fun n el hel=>(hcell n el (by simpa using hel)).2
   subst hc
   refine ⟨news,hN,fun W1 h1=>?_⟩
   rw [← hn]
   exact first_news (by have:=hN.len;simpa [hn] using this) (fun j u hu=>by rw [Addr.add_lit];simpa using hcc j u hu) h1
 ·next j m n =>
  split at h
  ·next b hb =>
   split at h
   ·next hbk =>
    cases h
    simp only [Bool.and_eq_true,beq_iff_eq] at hbk
    obtain ⟨hm,hall,-⟩:=hob
    have hh:=hH j (by simp)
    rw [hb] at hh
    obtain ⟨g',hg',-,hB⟩:=hh
    obtain ⟨g,k',cap,h1,-,hc⟩:=rp_own.1 hr
    have h1' : ρ j=some (g,k'):=h1
    rw [h1'] at hg';cases hg'
    obtain ⟨news,hN,hcc⟩:=news_of (O:=O) (W:=W) (g:=g') (o:=0) hk hall fun n el hel=>by
     have:=hB.cells0 hel hbk.1
     rw [hbk.2] at this
     simpa using this
    subst hc
    refine ⟨hm,⟨_,_,rfl⟩,news,hN,fun W1 h1=>first_news (by rw [hN.len,hm]) (fun j u hu=>by rw [Addr.add_lit];simpa using hcc j u hu) h1⟩
   ·cases h
  ·cases h
 ·cases h
  obtain ⟨-,-,rfl⟩:=rp_nils.1 hr
  exact ⟨rfl,⟨none,0,rfl⟩,[],News.nil,fun W1 _=>first_none none 0⟩
 ·cases h
theorem getElem?_news {olds news zs:List Value} {q:Nat}:(olds++news++zs)[q]? = if q<olds.length then olds[q]? else if q<olds.length+news.length then news[q - olds.length]? else zs[q - (olds.length+news.length)]? := by
 rw [List.append_assoc,List.getElem?_append]
 split
 ·rfl
 ·rw [List.getElem?_append]
  split
  ·rw [if_pos (by omega)]
  ·rw [if_neg (by omega)];congr 1;omega
theorem blk_app {W' : World} {g k:Nat} {xs ys olds news zs els:List Value} {ty:TypeId} {L:Nat} {w:Bool} {O' : Nat→Prop} (hg:W'.heap[g]? = some (.cells (olds++news++zs).toArray ty (0,0))) (hs:Still O W O' W')
  (ho:Olds O W k xs olds) (hn:News O W k ys news) (he:els=xs++ys):BlkAt nowhere O' W' g ⟨w,true,k,L,els⟩:=by
 subst he
 refine (blk_cells (arr_noMap rfl)).2 ⟨_,ty,hg,by show (xs++ys).length * k≤(olds++news++zs).toArray.size;simp only [List.length_append,List.size_toArray,ho.len,hn.len,Nat.add_mul];omega,fun p el hel=>?_⟩
 simp only [List.getElem?_append] at hel
 have hpm:(⟨w,true,k,L,xs++ys⟩:Blk).pm nowhere=nowhere:=rfl
 rw [hpm]
 split at hel
 ·next hp =>
  obtain ⟨h1,h2⟩:=ho.el p el hel
  refine ⟨h1,fun j x hx=>?_⟩
  obtain ⟨u,hu,hr⟩:=h2 j x hx
  refine ⟨u,?_,hr.mono hs (Sub.refl _)⟩
  rw [List.getElem?_toArray,getElem?_news,if_pos (List.getElem?_eq_some_iff.1 hu).1]
  exact hu
 ·next hp =>
  obtain ⟨h1,h2⟩:=hn.el _ el hel
  refine ⟨h1,fun j x hx=>?_⟩
  obtain ⟨u,hu,hr⟩:=h2 j x hx
  refine ⟨u,?_,hr.mono hs (Sub.refl _)⟩
  have hlt:=(List.getElem?_eq_some_iff.1 hu).1
  have e:p * k=olds.length+(p - xs.length) * k:=by rw [ho.len,← Nat.add_mul];congr 1;omega
  show (olds++news++zs).toArray[p * k+j]? = some u
  rw [List.getElem?_toArray,getElem?_news,if_neg (by omega),if_pos (by omega)]
  rw [show p * k+j - olds.length=(p - xs.length) * k+j by omega]
  exact hu
theorem run_room {t ty e ty0:TypeId} {i:TypeInfo} (ht:P.underlying t=some (.slice e)) (hi:P.info? e=some i) {g sLen sCap:Nat} {cur:Array Value} (hg:W.heap[g]? = some (.cells cur ty0 (0,0))) {p:Option Addr} {m cap:Nat} {news:List Value} (hl:news.length=m * i.size)
  (hf:(Builtin.firstCells i.size m (.slice p m cap)).run P W = .ok news.toArray W) (h1:∀ u∈news,u.oneCell' = true) (hroom:sLen+m≤sCap) (hfit:(sLen+m) * i.size≤cur.size) :
  (Builtin.append_ #[t,t] ty #[.slice (some ⟨g,0,none⟩) sLen sCap,.slice p m cap]).run P W =
   .ok (.slice (some ⟨g,0,none⟩) (sLen+m) sCap) (W.setRow g (cur.toList.take (sLen * i.size)++news++cur.toList.drop (sLen * i.size+news.length)).toArray):=by
 have hst:=run_storeCells_at P g (sLen * i.size) ty0 news 0 cur W hg (by rw [Nat.add_mul] at hfit;omega) h1
 simp only [Nat.add_zero] at hst
 simp [Builtin.append_,run_underlying ht,sizeOf,typeInfo,hi,Builtin.lenOf,hroom,hf,Addr.add_lit,hst]
theorem run_grow {t ty e:TypeId} {i:TypeInfo} {z:Value} (ht:P.underlying t=some (.slice e)) (hi:P.info? e=some i) (hz:i.zero=some z) {base:Option Addr} {sLen sCap:Nat} {olds:List Value}
  (hfo:(Builtin.firstCells i.size sLen (.slice base sLen sCap)).run P W.drew = .ok olds.toArray W.drew) {p:Option Addr} {m cap:Nat} {news:List Value}
  (hf:(Builtin.firstCells i.size m (.slice p m cap)).run P W.drew = .ok news.toArray W.drew) (hg:sCap<sLen+m) (hm:sLen+m≤1048576) (hb:i.bytes≤4096) :
  (Builtin.append_ #[t,t] ty #[.slice base sLen sCap,.slice p m cap]).run P W =
   .ok (.slice (some ⟨W.heap.size,0,none⟩) (sLen+m) (grownCap W (sLen+m) sCap e))
    (W.drew.alloc (.cells (olds++news++(Builtin.zeroCells z.cells (grownCap W (sLen+m) sCap e - (sLen+m))).toList).toArray e)):=by
 have hn:¬ (sLen+m≤sCap):=by omega
 have h63' : ¬ (9223372036854775807<((sLen:Int)+(m:Int))):=by omega
 have hfit:Builtin.nextslicecap (sLen+m) sCap * i.bytes≤281474976710656:=growslice_fits hg (Nat.le_trans (Nat.mul_le_mul hm hb) (by decide))
 have h48' : ¬ (281474976710656<Builtin.nextslicecap (sLen+m) sCap * i.bytes):=by omega
 simp [Builtin.append_,run_underlying ht,sizeOf,typeInfo,zeroValue,hi,hz,Builtin.lenOf,hn,h63',h48',Question.forced,hf,hfo,newRow,grownCap]
 try (congr 2;apply Array.ext';simp [List.append_assoc])
theorem still_new {W1:World} (h1:W1.heap=W.heap) (arr:Array Value) (ty:TypeId):Still O W (fun x=>O x∨x=W.heap.size) (W1.alloc (.cells arr ty))∧(W1.alloc (.cells arr ty)).heap[W.heap.size]? = some (.cells arr ty (0,0)):=by
 have hsize:W1.heap.size=W.heap.size:=by rw [h1]
 have hst:=still_alloc (O:=O) (W:=W1) (.cells arr ty)
 rw [hsize] at hst
 refine ⟨⟨by have:=hst.size;omega,fun g hg hO=>?_,fun g cur ty' hg=>hst.shp g cur ty' (by rw [h1];exact hg)⟩,by rw [← hsize];exact heap_alloc_new W1 _⟩
 have:=hst.pl g (by omega) hO
 exact ⟨this.1,this.2.trans (by rw [h1])⟩
theorem put_new {W1:World} (h1:W1.heap=W.heap∧W1.tape=W.tape∧W1.os=W.os∧W1.output=W.output) (hl:Low O W) {nx:Nat} (hn:ρ nx=none) {arr:Array Value} {ty:TypeId} {L cap k:Nat} {els:List Value} (hcap:L≤cap∧cap≤maxLen) (hsz:cap * k≤arr.size)
  (hB:BlkAt nowhere (fun x=>O x∨x=W.heap.size) (W1.alloc (.cells arr ty)) W.heap.size ⟨true,true,k,L,els⟩) (ws ks:List Nat) :
  Rp (fun i=>if i=nx then some (W.heap.size,k) else ρ i) (fun x=>O x∨x=W.heap.size) (W1.alloc (.cells arr ty)) (.slice (some ⟨nx,0,some 0⟩) L 0) (.slice (some ⟨W.heap.size,0,none⟩) L cap) ∧
   HAt (fun i=>if i=nx then some (W.heap.size,k) else ρ i) (fun x=>O x∨x=W.heap.size) (W1.alloc (.cells arr ty)) nx (some ⟨true,true,k,L,els⟩) ∧
   Step ρ O W (fun i=>if i=nx then some (W.heap.size,k) else ρ i) (fun x=>O x∨x=W.heap.size) (W1.alloc (.cells arr ty)) ws ks nx (nx+1):=by
 have hsize:W1.heap.size=W.heap.size:=by rw [h1.1]
 have hst:=step_alloc (ρ:=ρ) (O:=O) (W:=W1) (fun g hg=>by rw [hsize];exact hl g hg) (.cells arr ty) k nx hn ws ks
 rw [hsize] at hst
 obtain ⟨hs,hnew⟩:=still_new (O:=O) h1.1 arr ty
 refine ⟨rp_own.2 ⟨W.heap.size,k,cap,by simp,⟨hcap,arr,ty,hnew,by simpa using hsz⟩,by simp⟩,⟨W.heap.size,by simp,.inr rfl,hB.mono (Still.refl _ _) (sub_nowhere _) rfl⟩,hst.sub,fun i p h=>?_,hs,hst.low,hst.keepO,⟨hst.str.1.trans h1.2.1,hst.str.2.1.trans h1.2.2.1,hst.str.2.2.trans h1.2.2.2⟩,?_⟩
 ·rw [← hsize];exact hst.new i p h
 ·intro g hg hno;rw [← h1.1];exact hst.blk g (by omega) hno
theorem run_app {o:Oper} {a:Operand→Value} {args:Array Operand} {ats:Array TypeId} {s x:Operand} {t:TypeId} (ho:o.op = .call { callee:=.builtin .append,args:=args,argTypes:=ats }) (ha:args.toList=[s,x]) (ht:ats.toList=[t,t]) {v:Value} {W' : World}
  (h:(Builtin.append_ #[t,t] o.type #[a s,a x]).run P W = .ok v W'):(execOp a o).run P W = .ok (.value v) W' := by
 have e1:args=#[s,x]:=by rw [← ha]
 have e2:ats=#[t,t]:=by rw [← ht]
 subst e1 e2
 simp [execOp,ho,resolve,invoke,builtin,h,Result.andThen]
theorem zeroCells_len (cs:Array Value) (n:Nat):(Builtin.zeroCells cs n).size=n * cs.size:=by simp [Builtin.zeroCells]
theorem News.olds {k:Nat} {ys news:List Value} (h:News O W k ys news):Olds O W k ys news:=⟨h.len,h.el⟩
theorem grow_ok {k L sCap:Nat} {z:Value} {e:TypeId} {xs ys els olds news:List Value} (hz:z.cells.size=k) (hl:Low O W) {nx:Nat} (hn:ρ nx=none) (ho:Olds O W k xs olds) (hN:News O W k ys news) (hL:L=xs.length+ys.length) (he:els=xs++ys) (hm:L≤1048576) (ws ks:List Nat) :
  Rp (fun i=>if i=nx then some (W.heap.size,k) else ρ i) (fun x=>O x∨x=W.heap.size) (W.drew.alloc (.cells (olds++news++(Builtin.zeroCells z.cells (grownCap W L sCap e - L)).toList).toArray e)) (.slice (some ⟨nx,0,some 0⟩) L 0) (.slice (some ⟨W.heap.size,0,none⟩) L (grownCap W L sCap e)) ∧
   HAt (fun i=>if i=nx then some (W.heap.size,k) else ρ i) (fun x=>O x∨x=W.heap.size) (W.drew.alloc (.cells (olds++news++(Builtin.zeroCells z.cells (grownCap W L sCap e - L)).toList).toArray e)) nx (some ⟨true,true,k,L,els⟩) ∧
   Step ρ O W (fun i=>if i=nx then some (W.heap.size,k) else ρ i) (fun x=>O x∨x=W.heap.size) (W.drew.alloc (.cells (olds++news++(Builtin.zeroCells z.cells (grownCap W L sCap e - L)).toList).toArray e)) ws ks nx (nx+1):=by
 have hge:=grownCap_ge W L sCap e
 have hml:=grownCap_le_maxLen W L sCap e (by simp only [maxLen];omega)
 obtain ⟨hs,hnew⟩:=still_new (O:=O) (W:=W) (W1:=W.drew) rfl (olds++news++(Builtin.zeroCells z.cells (grownCap W L sCap e - L)).toList).toArray e
 refine put_new (W:=W) (W1:=W.drew) ⟨rfl,rfl,rfl,rfl⟩ hl hn ⟨hge,hml⟩ ?_ (blk_app hnew hs ho hN he) ws ks
 have h1:=ho.len
 have h2:=hN.len
 have h3:(grownCap W L sCap e - L) * k+L * k=grownCap W L sCap e * k:=by rw [← Nat.add_mul];congr 1;omega
 have h4:L * k=xs.length * k+ys.length * k:=by rw [hL,Nat.add_mul]
 simp only [List.size_toArray,List.length_append,Array.length_toList,zeroCells_len,hz]
 omega
theorem evAppend_ok {bd:Nat} {o:Oper} {e:Operand→Value} {H:Nat→Option Blk} {nx nx' : Nat} {orc orc' : List Value} {v:Value} {rd:List Nat} {wr:List (Nat×Option Blk)} {ob:List Prop} {args:Array Operand} {ats:Array TypeId} {s x:Operand} (ho:o.op = .call { callee:=.builtin .append,args:=args,argTypes:=ats }) (ha:args.toList=[s,x])
  (h:evAppend P ats.toList (e s) (e x) H nx orc=some (v,rd,wr,nx',orc',ob)) (hob:conj ob):OpDo P bd o e H nx nx' rd wr v:=by
 unfold evAppend at h
 split at h
 ·next t t' hats =>
  split at h
  ·next et hu =>
   split at h
   ·next it hi =>
    split at h
    ·next z hz =>
     split at h
     ·next hc =>
      simp only [Bool.and_eq_true,beq_iff_eq,decide_eq_true_eq,Nat.ble_eq] at hc
      obtain ⟨⟨⟨rfl,hk⟩,hzs⟩,hby⟩:=hc
      split at h
      ·next ys m rdx obx hx =>
       have hsx:s∈o.op.operands∧x∈o.op.operands:=by
        have e1:args=#[s,x]:=by rw [← ha]
        subst e1
        simp [ho,Op.operands,Call.operands]
       split at h
       ·next hs =>
        split at h
        ·next L els zs orc1 =>
         cases h
         obtain ⟨hob1,⟨h0,rfl,hels,hm⟩,-⟩:=conj_append.1 hob
         intro ρ O a W K Q hl he hr _ hf _ _ hK
         obtain ⟨hmy,⟨p,cap,hxc⟩,news,hN,hfc⟩:=appX_ok (P:=P) hk hx hob1 (he x hsx.2) hr
         have hsc:=he s hsx.1
         rw [hs] at hsc
         obtain ⟨-,-,hsc⟩:=rp_nils.1 hsc
         have hrun:=run_grow (W:=W) (ty:=o.type) hu hi hz (base:=none) (sLen:=0) (sCap:=0) (olds:=[]) (by simpa using first_none (P:=P) (k:=it.size) none 0) (p:=p) (cap:=cap) (hxc ▸ hfc W.drew rfl) (by omega) (by omega) hby
         have hrun' := run_app (a:=a.eval) ho ha hats (by rw [hsc,hxc];exact hrun)
         obtain ⟨g1,g2,g3⟩:=grow_ok (ρ:=ρ) (O:=O) (W:=W) (k:=it.size) (L:=0+m) (sCap:=0) (e:=et) (xs:=[]) (olds:=[]) (els:=els.toList) hzs hl (hf nx (Nat.le_refl _) (by omega)) News.nil.olds hN (by simp [hmy]) hels hm [nx] []
         unfold Oper.wp
         rw [hrun']
         refine hK _ _ _ _ g1 (fun p hp=>?_) g3
         simp only [List.mem_singleton] at hp
         subst hp
         exact g2
        ·next orc1 =>
         cases h
         obtain ⟨hob1,rfl,-⟩:=conj_append.1 hob
         intro ρ O a W K Q hl he hr _ hf _ _ hK
         obtain ⟨hmy,⟨p,cap,hxc⟩,news,hN,hfc⟩:=appX_ok (P:=P) hk hx hob1 (he x hsx.2) hr
         have hsc:=he s hsx.1
         rw [hs] at hsc
         obtain ⟨-,-,hsc⟩:=rp_nils.1 hsc
         have hrun:(Builtin.append_ #[t,t] o.type #[.slice none 0 0,.slice p 0 cap]).run P W = .ok (.slice none 0 0) W:=by
          simp [Builtin.append_,run_underlying hu,sizeOf,typeInfo,hi,Builtin.lenOf,first_none]
         have hrun' := run_app (a:=a.eval) ho ha hats (by rw [hsc,hxc];exact hrun)
         unfold Oper.wp
         rw [hrun']
         exact hK _ ρ O W (rp_nils.2 ⟨rfl,rfl,rfl⟩) (fun p hp=>by cases hp) (Step.refl hl _ _ _)
        ·cases h
       ·next i0 n c0 hs =>
        split at h
        ·next b hb =>
         split at h
         ·next hc2 =>
          simp only [Bool.and_eq_true,beq_iff_eq,Bool.not_eq_true'] at hc2
          obtain ⟨⟨⟨hba,hbw⟩,hbk⟩,hni⟩:=hc2
          split at h
          ·next L els zs orc1 =>
           cases h
           obtain ⟨hob1,hnb,⟨rfl,hels,hm⟩,-⟩:=conj_append.1 hob
           intro ρ O a W K Q hl he hr _ hf _ hinj hK
           obtain ⟨hmy,⟨p,cap,hxc⟩,news,hN,hfc⟩:=appX_ok (P:=P) hk hx hob1 (he x hsx.2) (fun i hi=>hr i (List.mem_cons_of_mem _ hi))
           have hsc:=he s hsx.1
           rw [hs] at hsc
           obtain ⟨g,k',sCap,g1,⟨g2,arr,ty,g3,g4⟩,hsc⟩:=rp_own.1 hsc
           have g1' : ρ i0=some (g,k'):=g1
           have hh:=hr i0 (by simp)
           rw [hb] at hh
           obtain ⟨g',g5,hO,hB⟩:=hh
           rw [g1'] at g5;cases g5
           obtain ⟨arr',ty',g6,g7,g8⟩:=(blk_cells (arr_noMap hba)).1 hB
           rw [g3] at g6;cases g6
           simp only [Nat.zero_mul,Nat.zero_add] at g4 hsc
           have hpm:b.pm ρ=nowhere:=by unfold Blk.pm;rw [hba]
           rw [hpm] at g8
           rw [hbk] at g4 g7 g8
           -- the old cells,those that count
           have hOl:Olds O W it.size b.els (arr.toList.take (n * it.size)):=⟨by simp only [List.length_take,Array.length_toList,hnb];omega,fun q el hel=>⟨(g8 q el hel).1,fun j y hy=>?_⟩⟩
           ·have hnw:=hf nx (Nat.le_refl _) (by omega)
            by_cases hroom:n+m≤sCap
            ·have hfit:(n+m) * it.size≤arr.size:=Nat.le_trans (Nat.mul_le_mul_right _ hroom) g4
             have hlen:n * it.size+news.length≤arr.toList.length:=by rw [hN.len,← hmy,← Nat.add_mul];simpa using hfit
             have hrun:=run_room (W:=W) (ty:=o.type) hu hi g3 (sLen:=n) (sCap:=sCap) (p:=p) (cap:=cap) (m:=m) (by rw [hN.len,hmy]) (hxc ▸ hfc W rfl) hN.one hroom hfit
             have hrun' := run_app (a:=a.eval) ho ha hats (by rw [hsc,hxc];exact hrun)
             have hsz:(arr.toList.take (n * it.size)++news++arr.toList.drop (n * it.size+news.length)).toArray.size=arr.size:=by
              simp only [Array.length_toList] at hlen
              simp;omega
             have hshp:=shp_setRow (W:=W) g3 hsz
             have hnewg:=setRow_heap W g arr (arr.toList.take (n * it.size)++news++arr.toList.drop (n * it.size+news.length)).toArray ty (0,0) g3
             have hst:Still O W O (W.setRow g (arr.toList.take (n * it.size)++news++arr.toList.drop (n * it.size+news.length)).toArray):=⟨by simp,fun g' hg' hO' => ⟨hO',setRow_other W g g' _ (fun e=>hO' (e ▸ hO))⟩,hshp⟩
             have hB' := blk_app (W:=W) (w:=true) (L:=n+m) hnewg hst hOl hN hels
             unfold Oper.wp
             rw [hrun']
             refine hK _ (fun i=>if i=nx then some (g,it.size) else ρ i) O _ (rp_own.2 ⟨g,it.size,sCap,by simp,⟨⟨hroom,g2.2⟩,_,ty,hnewg,by rw [hsz];simpa using g4⟩,by simp⟩) (fun p hp=>?_) ⟨fun i p h=>?_,fun i p h=>?_,hst,fun g' h=>by rw [size_setRow];exact hl g' h,fun _ h _=>h,⟨rfl,rfl,rfl⟩,fun g' hg' hne=>setRow_other W g g' _ (fun e=>hne i0 (by simp) b.k (e ▸ g1'))⟩
             ·simp only [List.mem_cons,List.not_mem_nil,or_false] at hp
              rcases hp with rfl | rfl
              ·exact ⟨g,by simp,hO,hB'.mono (Still.refl _ _) (sub_nowhere _) rfl⟩
              ·trivial
             ·by_cases e:i=nx
              ·subst e;rw [hnw] at h;cases h
              ·simp [e,h]
             ·by_cases e:i=nx
              ·subst e;simp at h;subst h;exact .inr ⟨Nat.le_refl _,by omega,.inr ⟨i0,by simp [kills],b.k,g1'⟩⟩
              ·simp [e] at h;exact .inl h
            ·have hrun:=run_grow (W:=W) (ty:=o.type) hu hi hz (base:=some ⟨g,0,none⟩) (sLen:=n) (sCap:=sCap) (olds:=arr.toList.take (n * it.size)) (first_news (W:=W) (by rw [hOl.len,hnb]) (fun j u hju=>by rw [Addr.add_lit];simp only [World.cell?,Nat.zero_add,g3];rw [List.getElem?_take] at hju;split at hju;exact (by simpa using hju);cases hju) rfl) (p:=p) (cap:=cap) (m:=m) (hxc ▸ hfc W.drew rfl) (by omega) hm hby
             have hrun' := run_app (a:=a.eval) ho ha hats (by rw [hsc,hxc];exact hrun)
             obtain ⟨g1,g2,g3⟩:=grow_ok (ρ:=ρ) (O:=O) (W:=W) (k:=it.size) (L:=n+m) (sCap:=sCap) (e:=et) hzs hl hnw hOl hN (by rw [hnb,hmy]) hels hm [nx,i0] [i0]
             unfold Oper.wp
             rw [hrun']
             refine hK _ _ _ _ g1 (fun p hp=>?_) g3
             simp only [List.mem_cons,List.not_mem_nil,or_false] at hp
             rcases hp with rfl | rfl
             ·exact g2
             ·trivial
           ·obtain ⟨u,hu',hr'⟩:=(g8 q el hel).2 j y hy
            refine ⟨u,?_,hr'⟩
            have hq:=(List.getElem?_eq_some_iff.1 hel).1
            have hj:j<it.size:=by rw [← (g8 q el hel).1];exact (Array.getElem?_eq_some_iff.1 hy).1
            have:=Nat.mul_le_mul_right it.size (show q+1≤b.els.length from hq)
            rw [Nat.add_mul] at this
            rw [List.getElem?_take,if_pos (by rw [hnb];omega)]
            simpa using hu'
          ·cases h
         ·cases h
        ·cases h
       ·cases h
      ·cases h
     ·cases h
    ·cases h
   ·cases h
  ·cases h
 ·cases h
theorem evBuildS_ok {bd:Nat} {o:Oper} {e:Operand→Value} {H:Nat→Option Blk} {nx nx' : Nat} {orc orc' : List Value} {v:Value} {rd:List Nat} {wr:List (Nat×Option Blk)} {ob:List Prop} {t:TypeId} {len:Nat} {parts:Array (Nat×Operand)} (ho:o.op = .buildSlice t len parts)
  (h:evBuildS P t len (parts.toList.map fun p=>(p.1,e p.2)) nx orc=some (v,rd,wr,nx',orc',ob)):OpDo P bd o e H nx nx' rd wr v:=by
 unfold evBuildS at h
 split at h
 ·next et hu =>
  split at h
  ·next it hi =>
   split at h
   ·next z hz =>
    split at h
    ·next hc =>
     simp only [Bool.and_eq_true,decide_eq_true_eq,Nat.ble_eq] at hc
     obtain ⟨⟨⟨⟨hk,hzs⟩,hzo⟩,hlen⟩,hpo⟩:=hc
     split at h
     ·next cells hfill =>
      split at h
      ·next hc2 =>
       simp only [Bool.and_eq_true,decide_eq_true_eq] at hc2
       obtain ⟨⟨hlf,hcl⟩,hcs⟩:=hc2
       cases h
       intro ρ O a W K Q hl he hr _ hf _ _ hK
       have hzz:AtAll (Rp ρ O W) ((Array.range (len * it.size)).map (z.cells[· % z.cells.size]!)) ((Array.range (len * it.size)).map (z.cells[· % z.cells.size]!)):=⟨rfl,fun i x hx=>⟨x,hx,rp_zOk (by
        obtain ⟨j,hj,rfl⟩:=Array.getElem?_eq_some_iff.1 hx
        have hm:i % z.cells.size<z.cells.size:=Nat.mod_lt _ (by omega)
        simp only [Array.getElem_map,Array.getElem_range]
        rw [getElem!_pos z.cells _ hm]
        exact List.all_eq_true.1 hzo _ (by simp))⟩⟩
       have hps:∀ (i:Nat) (p q:Nat×Value),(parts.toList.map fun p=>(p.1,e p.2))[i]? = some p→(parts.toList.map fun p=>(p.1,a.eval p.2))[i]? = some q→p.1=q.1∧AtAll (Rp ρ O W) p.2.cells q.2.cells:=fun i p q hp hq=>by
        have hm:=List.mem_of_getElem? hp
        simp only [List.getElem?_map] at hp hq
        obtain ⟨r,hr,rfl⟩:=Option.map_eq_some_iff.1 hp
        rw [hr] at hq;cases hq
        refine ⟨rfl,rp_cells (he r.2 ?_) (List.all_eq_true.1 hpo _ hm)⟩
        simp only [ho,Op.operands,List.mem_toArray,List.mem_map]
        exact ⟨r,List.mem_of_getElem? hr,rfl⟩
       obtain ⟨us,hus,hR⟩:=fill_rep (fun j=>some (j * it.size,it.size)) _ _ (by simp) hps hzz hfill
       have hrun:(execOp a.eval o).run P W = .ok (.value (.slice (some ⟨W.heap.size,0,none⟩) len len)) (W.alloc (.cells us et)):=by
        have h24:¬ (16777216<len * it.size):=by omega
        by_cases h0:len * it.size=0
        ·have er:∀ f:Nat→Value,(Array.range 0).map f=#[]:=fun f=>Array.eq_empty_of_size_eq_zero (by simp)
         simp only [h0,er] at hus
         simp [execOp,ho,Instr.buildSlice,run_underlying hu,sizeOf,typeInfo,zeroValue,hi,hz,h24,h0,er,hus,newRow]
        ·simp [execOp,ho,Instr.buildSlice,run_underlying hu,sizeOf,typeInfo,zeroValue,hi,hz,h24,h0,hus,newRow]
       obtain ⟨hs,hnew⟩:=still_new (O:=O) (W:=W) (W1:=W) rfl us et
       have hsz:us.size=len * it.size:=by rw [hR.1,hcs]
       have hB:BlkAt nowhere (fun x=>O x∨x=W.heap.size) (W.alloc (.cells us et)) W.heap.size ⟨true,true,it.size,len,(List.range len).map fun n=>mkEl it.size ((cells.toList.drop (n * it.size)).take it.size)⟩:=by
        refine (blk_cells (arr_noMap rfl)).2 ⟨us,et,hnew,by simp [hsz],fun n el hel=>?_⟩
        simp only [List.getElem?_map] at hel
        obtain ⟨n',hn',rfl⟩:=Option.map_eq_some_iff.1 hel
        have hnl:n<len:=by have:=(List.getElem?_eq_some_iff.1 hn').1;simpa using this
        rw [List.getElem?_range hnl] at hn'
        cases hn'
        have hle:=Nat.mul_le_mul_right it.size (show n+1≤len from hnl)
        rw [Nat.add_mul] at hle
        have hl1:((cells.toList.drop (n * it.size)).take it.size).length=it.size:=by simp;omega
        rw [mkEl_cells hl1 (fun _=>List.all_eq_true.2 fun x hx=>List.all_eq_true.1 hlf x (List.drop_subset _ _ (List.take_subset _ _ hx)))]
        refine ⟨by simpa using hl1,fun j x hx=>?_⟩
        rw [List.getElem?_toArray,List.getElem?_take] at hx
        split at hx
        ·next hj =>
         rw [List.getElem?_drop] at hx
         obtain ⟨u,hu',hr'⟩:=hR.2 (n * it.size+j) x (by simpa using hx)
         exact ⟨u,hu',(rp_closed hr' (List.all_eq_true.1 hcl x (List.mem_of_getElem? hx))).mono hs (Sub.refl _)⟩
        ·cases hx
       obtain ⟨g1,g2,g3⟩:=put_new (W:=W) (W1:=W) ⟨rfl,rfl,rfl,rfl⟩ hl (hf nx (Nat.le_refl _) (by omega)) (cap:=len) ⟨Nat.le_refl _,by have:=Nat.le_mul_of_pos_right len hk;simp only [maxLen];omega⟩ (by rw [hsz];exact Nat.le_refl _) hB [nx] []
       unfold Oper.wp
       rw [hrun]
       refine hK _ _ _ _ g1 (fun p hp=>?_) g3
       simp only [List.mem_singleton] at hp
       subst hp
       exact g2
      ·cases h
     ·cases h
    ·cases h
   ·cases h
  ·cases h
 ·cases h
theorem bndV_ok {v:Option Value} {a:Option Int} (h:bndV v=some a) {f:Option Value} (hf:∀ x,v=some x→∃ y,f=some y∧Rp ρ O W x y) (hn:v=none→f=none):(a=none∧f=none)∨∃ k n,a=some n∧f=some (.int k n):=by
 unfold bndV at h
 split at h
 ·cases h;exact .inl ⟨rfl,hn rfl⟩
 ·next k n =>
  cases h
  obtain ⟨y,rfl,hy⟩:=hf _ rfl
  rw [rp_int.1 hy]
  exact .inr ⟨_,_,rfl,rfl⟩
 ·cases h
theorem run_bnd {k:IntKind} {n:Int} {y:Nat} {code:BoundsCode} (h0:0≤n) (h1:n≤(y:Int)):(Instr.sliceBound (.int k n) y code).run P W = .ok n.toNat W:=by simp [Instr.sliceBound,asIntOf,h0,h1,go_sem]
theorem run_bnds {len cap:Nat} {lo hi:Option Value} {a b:Option Int} (hlo:(a=none∧lo=none)∨∃ k n,a=some n∧lo=some (.int k n)) (hhi:(b=none∧hi=none)∨∃ k n,b=some n∧hi=some (.int k n)) (h0:0≤a.getD 0) (h1:a.getD 0≤b.getD len) (h2:b.getD len≤len) (hc:len≤cap) :
  (Instr.sliceBounds true len cap lo hi none).run P W = .ok ((a.getD 0).toNat,(b.getD len).toNat,cap) W:=by
 rcases hlo with ⟨rfl,rfl⟩ | ⟨k,n,rfl,rfl⟩ <;> rcases hhi with ⟨rfl,rfl⟩ | ⟨k',n',rfl,rfl⟩ <;> simp only [Option.getD_none,Option.getD_some] at h0 h1 h2 ⊢
 ·simp [Instr.sliceBounds]
 ·simp [Instr.sliceBounds,run_bnd (P:=P) (W:=W) (k:=k') (y:=cap) (code:=.sliceAcap) (show 0≤n' by omega) (by omega)]
 ·simp [Instr.sliceBounds,run_bnd (P:=P) (W:=W) (k:=k) (y:=len) (code:=.sliceB) h0 h1]
 ·simp [Instr.sliceBounds,run_bnd (P:=P) (W:=W) (k:=k') (y:=cap) (code:=.sliceAcap) (show 0≤n' by omega) (by omega),run_bnd (P:=P) (W:=W) (k:=k) (y:=n'.toNat) (code:=.sliceB) h0 (by omega)]
theorem evSub_ok {t:TypeId} {x:Operand} {lo hi:Option Operand} {e:Operand→Value} {H:Nat→Option Blk} {orc orc' : List Value} {v:Value} {rd:List Nat} {ob:List Prop} (h:evSub P t (e x) (lo.map e) (hi.map e) orc=some (v,rd,orc',ob)) (hob:conj ob):OpVal P (.slice t x lo hi none) e H rd v:=by
 unfold evSub at h
 split at h
 ·next et hu =>
  split at h
  ·next sz hsz =>
   split at h
   ·next n xs zs0 hx =>
    split at h
    ·next a b ha hb =>
     split at h
     ·next L els zs orc1 =>
      split at h
      ·next hzs =>
       cases h
       have hz:zs=#[]:=by simpa using hzs
       subst hz
       obtain ⟨⟨h0,h1,h2,hL,hels⟩,hall,-⟩:=hob
       intro ρ O W o f ho he _
       have hxx:=he x (by simp [Op.operands])
       rw [hx] at hxx
       obtain ⟨p,cap,rfl,hn,hc,h3,h4,h5,h6⟩:=rp_row.1 hxx
       have ea:=bndV_ok (ρ:=ρ) (O:=O) (W:=W) ha (f:=lo.map f) (fun z hz=>by
        obtain ⟨w,rfl,rfl⟩:=Option.map_eq_some_iff.1 hz
        exact ⟨f w,rfl,he w (by simp [Op.operands])⟩) (fun hz=>by cases lo <;> simp at hz ⊢)
       have eb:=bndV_ok (ρ:=ρ) (O:=O) (W:=W) hb (f:=hi.map f) (fun z hz=>by
        obtain ⟨w,rfl,rfl⟩:=Option.map_eq_some_iff.1 hz
        exact ⟨f w,rfl,he w (by simp [Op.operands])⟩) (fun hz=>by cases hi <;> simp at hz ⊢)
       have hrun:=run_bnds (P:=P) (W:=W) ea eb h0 h1 h2 (hn ▸ h3)
       have hel:els.size=L:=by
        have:els.toList.length=L:=by rw [hels];simp;omega
        simpa using this
       refine ⟨.slice (if cap=(a.getD 0).toNat then p else p.map (·.add ((a.getD 0).toNat * sz))) L (cap - (a.getD 0).toNat),?_,rp_row.2 ⟨_,cap - (a.getD 0).toNat,rfl,hel.symm,by rw [hel],by omega,by omega,fun hp=>?_,fun h0' => ?_⟩⟩
       ·have hLn:(b.getD n).toNat - (a.getD 0).toNat=L:=by omega
        rw [← hn] at hc
        simp [execOp,ho,Instr.sliceAt,Instr.slice,hc,run_underlying hu,hrun,run_sz hsz,hLn]
       ·split at hp
        ·have:=h5 hp;omega
        ·cases p with
         | none=>have:=h5 rfl;omega
         | some q=>simp at hp
       ·have hx0:xs.size≠0:=by omega
        obtain ⟨g,o1,k,hp,hg,hO,hcell⟩:=h6 hx0
        have hk:k=sz:=by
         have h7:=(hcell 0 xs[0] (by simp [show 0<xs.size by omega])).1
         have h8:=(hall xs[0] (by simp)).1
         omega
        subst hk
        refine ⟨g,o1+(a.getD 0).toNat * k,k,by rw [if_neg (by omega),hp];simp [Addr.add_lit],hg,hO,fun m el hm=>?_⟩
        have hm' : els.toList[m]? = some el:=by simpa using hm
        rw [hels,List.getElem?_take] at hm'
        split at hm'
        ·rw [List.getElem?_drop] at hm'
         obtain ⟨h7,h8⟩:=hcell _ el (by simpa using hm')
         refine ⟨h7,?_⟩
         rw [show o1+(a.getD 0).toNat * k+m * k=o1+((a.getD 0).toNat+m) * k by rw [Nat.add_mul];omega]
         exact h8
        ·cases hm'
      ·cases h
     ·cases h
    ·cases h
   ·cases h
  ·cases h
 ·cases h
theorem made_at (cs:Array Value) (n:Nat) {i:Nat} (h:i<n) (hs:0<cs.size):(madeCells cs n)[i]? = cs[i % cs.size]? := by
 have:=Nat.mod_lt i hs
 simp [madeCells,h,this]
theorem evMake_ok {bd:Nat} {o:Oper} {e:Operand→Value} {H:Nat→Option Blk} {nx nx' : Nat} {orc orc' : List Value} {v:Value} {rd:List Nat} {wr:List (Nat×Option Blk)} {ob:List Prop} {t:TypeId} {x y:Operand} (ho:o.op = .makeSlice t x y)
  (h:evMake P t (e x) (e y) nx orc=some (v,rd,wr,nx',orc',ob)) (hob:conj ob):OpDo P bd o e H nx nx' rd wr v:=by
 unfold evMake at h
 split at h
 ·next et hu =>
  split at h
  ·next it hi =>
   split at h
   ·next z hz =>
    split at h
    ·next hc =>
     simp only [Bool.and_eq_true,decide_eq_true_eq,Nat.ble_eq] at hc
     obtain ⟨⟨⟨⟨⟨hk,hzs⟩,hzo⟩,hlf⟩,hcl⟩,hby⟩:=hc
     split at h
     ·next kl l kc c hl hcv =>
      split at h
      ·next L els zs orc1 =>
       cases h
       obtain ⟨⟨rfl,hlc,hcm,hels⟩,-⟩:=hob
       intro ρ O a W K Q hlow he hr _ hf _ _ hK
       have hx:=he x (by simp [ho,Op.operands])
       have hy:=he y (by simp [ho,Op.operands])
       rw [hl,rp_int] at hx
       rw [hcv,rp_int] at hy
       obtain ⟨n,rfl⟩:∃ n:Nat,c=n:=⟨c.toNat,by omega⟩
       have hbn:(it.bytes:Int) * (n:Int)≤281474976710656:=by
        have h1:it.bytes * n≤4096 * 1048576:=Nat.mul_le_mul hby (by omega)
        have h2:((it.bytes * n:Nat):Int)≤281474976710656:=by omega
        rwa [Int.natCast_mul] at h2
       have hrun:=run_make (P:=P) W t et it z hu hi hz kl kc (L:Int) (n:Int) (by omega) hlc hbn (by omega)
       simp only [Int.toNat_natCast] at hrun
       have hrun' : (execOp a.eval o).run P W = .ok (.value (.slice (some ⟨W.heap.size,0,none⟩) L n)) (W.alloc (.cells (madeCells z.cells (n * it.size)) et)):=by
        simp [execOp,ho,hx,hy,hrun]
       obtain ⟨hs,hnew⟩:=still_new (O:=O) (W:=W) (W1:=W) rfl (madeCells z.cells (n * it.size)) et
       have hsz:(madeCells z.cells (n * it.size)).size=n * it.size:=size_madeCells _ _
       have hLn:L≤n:=by omega
       have hB:BlkAt nowhere (fun x=>O x∨x=W.heap.size) (W.alloc (.cells (madeCells z.cells (n * it.size)) et)) W.heap.size ⟨true,true,it.size,L,els.toList⟩:=by
        refine (blk_cells (arr_noMap rfl)).2 ⟨_,et,hnew,by rw [hsz,hels];simp only [List.length_replicate];exact Nat.mul_le_mul_right _ hLn,fun p el hel=>?_⟩
        simp only [hels] at hel
        rw [List.getElem?_replicate] at hel
        split at hel
        ·next hp =>
         cases hel
         have hcells:=mkEl_cells (k:=it.size) (cs:=z.cells.toList) (by simpa using hzs) (fun _=>hlf)
         rw [hcells]
         refine ⟨by simpa using hzs,fun j u hu' => ?_⟩
         have hju:z.cells[j]? = some u:=by simpa using hu'
         have hj:j<it.size:=by rw [← hzs];exact (Array.getElem?_eq_some_iff.1 hju).1
         have hle:=Nat.mul_le_mul_right it.size (show p+1≤n by omega)
         rw [Nat.add_mul] at hle
         have hmod:(p * it.size+j) % z.cells.size=j:=by rw [hzs,Nat.mul_comm,Nat.mul_add_mod,Nat.mod_eq_of_lt hj]
         refine ⟨u,by rw [made_at _ _ (by show p * it.size+j<n * it.size;omega) (by omega),hmod];exact hju,?_⟩
         exact rp_closed (ρ:=ρ) (rp_zOk (List.all_eq_true.1 hzo u (List.mem_of_getElem? (by simpa using hju)))) (List.all_eq_true.1 hcl u (List.mem_of_getElem? (by simpa using hju)))
        ·cases hel
       obtain ⟨g1,g2,g3⟩:=put_new (W:=W) (W1:=W) ⟨rfl,rfl,rfl,rfl⟩ hlow (hf nx (Nat.le_refl _) (by omega)) (cap:=n) ⟨hLn,by simp only [maxLen];omega⟩ (by rw [hsz];exact Nat.le_refl _) hB [nx] []
       unfold Oper.wp
       rw [hrun']
       refine hK _ _ _ _ g1 (fun p hp=>?_) g3
       simp only [List.mem_singleton] at hp
       subst hp
       exact g2
      ·cases h
     ·cases h
    ·cases h
   ·cases h
  ·cases h
 ·cases h
theorem run_cpy {t t' ty e ty0:TypeId} {i:TypeInfo} (ht:P.underlying t=some (.slice e)) (hi:P.info? e=some i) {g n c cap:Nat} {cur:Array Value} (hg:W.heap[g]? = some (.cells cur ty0 (0,0))) {p:Option Addr} {news:List Value} (hl:news.length=n * i.size)
  (hf:(Builtin.firstCells i.size n (.slice p n cap)).run P W = .ok news.toArray W) (h1:∀ u∈news,u.oneCell' = true) (hfit:n * i.size≤cur.size) :
  (Builtin.copy_ #[t,t'] ty #[.slice (some ⟨g,0,none⟩) n c,.slice p n cap]).run P W = .ok (.int .i64 n) (W.setRow g ([]++news++cur.toList.drop news.length).toArray):=by
 have hst:=run_storeCells_at P g 0 ty0 news 0 cur W hg (by omega) h1
 simp only [Nat.zero_add,List.take_zero,List.nil_append] at hst
 simp [Builtin.copy_,run_underlying ht,sizeOf,typeInfo,hi,Builtin.lenOf,hf,hst,goInt]
theorem evCopy_ok {bd:Nat} {o:Oper} {e:Operand→Value} {H:Nat→Option Blk} {nx nx' : Nat} {orc orc' : List Value} {v:Value} {rd:List Nat} {wr:List (Nat×Option Blk)} {ob:List Prop} {args:Array Operand} {ats:Array TypeId} {d x:Operand} (ho:o.op = .call { callee:=.builtin .copy,args:=args,argTypes:=ats }) (ha:args.toList=[d,x])
  (h:evCopy P ats.toList (e d) (e x) H nx orc=some (v,rd,wr,nx',orc',ob)) (hob:conj ob):OpDo P bd o e H nx nx' rd wr v:=by
 unfold evCopy at h
 split at h
 ·next t t' hats =>
  split at h
  ·next et hu =>
   split at h
   ·next it hi =>
    split at h
    ·next hk =>
     have hk:0<it.size:=by simpa using hk
     split at h
     ·next ys m rdx obx hx =>
      split at h
      ·next i0 n c0 hs =>
       split at h
       ·next b hb =>
        split at h
        ·next hc2 =>
         cases h
         simp only [Bool.and_eq_true,beq_iff_eq,Bool.not_eq_true'] at hc2
         obtain ⟨⟨⟨hba,hbw⟩,hbk⟩,hni⟩:=hc2
         obtain ⟨hob1,⟨rfl,hnb⟩,-⟩:=conj_append.1 hob
         have e1:args=#[d,x]:=by rw [← ha]
         have e2:ats=#[t,t']:=by rw [← hats]
         subst e1 e2
         intro ρ O a W K Q hl he hr _ hf _ hinj hK
         obtain ⟨hmy,⟨p,cap,hxc⟩,news,hN,hfc⟩:=appX_ok (P:=P) hk hx hob1 (he x (by simp [ho,Op.operands,Call.operands])) (fun i hi=>hr i (List.mem_cons_of_mem _ hi))
         have hsc:=he d (by simp [ho,Op.operands,Call.operands])
         rw [hs] at hsc
         obtain ⟨g,k',sCap,g1,⟨g2,arr,ty,g3,g4⟩,hsc⟩:=rp_own.1 hsc
         have g1' : ρ i0=some (g,k'):=g1
         have hh:=hr i0 (by simp)
         rw [hb] at hh
         obtain ⟨g',g5,hO,hB⟩:=hh
         rw [g1'] at g5;cases g5
         simp only [Nat.zero_mul,Nat.zero_add] at g4 hsc
         rw [hbk] at g4
         have hfit:m * it.size≤arr.size:=Nat.le_trans (Nat.mul_le_mul_right _ g2.1) g4
         have hnl:news.length=m * it.size:=by rw [hN.len,hmy]
         have hrun:=run_cpy (W:=W) (t' := t') (ty:=o.type) hu hi g3 (n:=m) (c:=sCap) (p:=p) (cap:=cap) hnl (hxc ▸ hfc W rfl) hN.one hfit
         have hrun' : (execOp a.eval o).run P W = .ok (.value (.int .i64 m)) (W.setRow g ([]++news++arr.toList.drop news.length).toArray):=by
          simp [execOp,ho,resolve,invoke,builtin,hsc,hxc,hrun,Result.andThen]
         have hsz:([]++news++arr.toList.drop news.length).toArray.size=arr.size:=by simp;omega
         have hshp:=shp_setRow (W:=W) g3 hsz
         have hnewg:=setRow_heap W g arr ([]++news++arr.toList.drop news.length).toArray ty (0,0) g3
         have hst:Still O W O (W.setRow g ([]++news++arr.toList.drop news.length).toArray):=⟨by simp,fun g' hg' hO' => ⟨hO',setRow_other W g g' _ (fun e=>hO' (e ▸ hO))⟩,hshp⟩
         have hB' := blk_app (W:=W) (w:=true) (L:=m) hnewg hst News.nil.olds hN rfl
         unfold Oper.wp
         rw [hrun']
         refine hK _ ρ O _ (rp_int.2 rfl) (fun p hp=>?_) ⟨Sub.refl _,fun _ _ h=>.inl h,hst,fun g' h=>by rw [size_setRow];exact hl g' h,fun _ h _=>h,⟨rfl,rfl,rfl⟩,fun g' hg' hne=>setRow_other W g g' _ (fun e=>hne i0 (by simp) b.k (e ▸ g1'))⟩
         simp only [List.mem_singleton] at hp
         subst hp
         have e3:({ b with n:=m,els:=ys }:Blk)=⟨true,true,it.size,m,[]++ys⟩:=by
          obtain ⟨bw,ba,bk,bn,be⟩:=b
          simp only at hba hbw hbk
          subst hba hbw hbk
          rfl
         exact ⟨g,g1',hO,e3 ▸ hB'.mono (Still.refl _ _) (sub_nowhere _) rfl⟩
        ·cases h
       ·cases h
      ·cases h
     ·cases h
    ·cases h
   ·cases h
  ·cases h
 ·cases h
theorem evEff2_ok {bd:Nat} {o:Oper} {e:Operand→Value} {H:Nat→Option Blk} {nx nx' : Nat} {orc orc' : List Value} {v:Value} {rd:List Nat} {wr:List (Nat×Option Blk)} {ob:List Prop} (h:evEff2 P o.op e H nx orc=some (v,rd,wr,nx',orc',ob)) (hob:conj ob):OpDo P bd o e H nx nx' rd wr v:=by
 unfold evEff2 at h
 split at h
 ·next args ats ho =>
  split at h
  ·next s x ha=>exact evAppend_ok ho ha h hob
  ·cases h
 ·next args ats ho =>
  split at h
  ·next d x ha=>exact evCopy_ok ho ha h hob
  ·cases h
 ·next t len parts ho=>exact evBuildS_ok ho h
 ·next t x lo hi ho =>
  obtain ⟨r,hr,he⟩:=Option.map_eq_some_iff.1 h
  cases he
  exact (evSub_ok hr hob).do ho nx
 ·next t x y ho=>exact evMake_ok ho h hob
 ·next t ho=>exact evMkMap_ok ho h
 ·next t m k x ho=>exact evMapUp_ok (.inl ho) h
 ·next t m k x ho=>exact evMapUp_ok (.inr ho) h
 ·next t m k ok ho =>
  obtain ⟨r,hr,he⟩:=Option.map_eq_some_iff.1 h
  cases he
  exact (evLookup_ok hr).do ho nx
 ·exact evEff_ok h hob
end
end
section
open Go.RowKit
def AC (P:Program) (g:FuncId) (args:List Value) (r:Value):Prop :=
 ∀ (O:Nat→Prop) (W:World) (vs:Array Value),Low O W→AtAll (Rp nowhere O W) args.toArray vs→Calls P g vs W fun e W' => ∃ c,e = .returned c∧Rp nowhere O W' r c∧Kept W W'
def AO (P:Program) (g:FuncId) (args:List Value) (cs:Array Value) (pos k:Nat):Prop :=
 ∀ (O:Nat→Prop) (W:World) (vs:Array Value),Low O W→AtAll (Rp nowhere O W) args.toArray vs→Calls P g vs W fun e W' => ∃ us g0 n els cap,e = .returned (.agg us)∧us.size=cs.size∧Kept W W' ∧ W.heap.size≤g0 ∧
  cs[pos]? = some (vRow n els)∧n≤cap∧(cap≤maxLen∧CapAt W' g0 (cap * k))∧us[pos]? = some (.slice (some ⟨g0,0,none⟩) n cap)∧BlkAt nowhere (fun g=>O g∨g=g0) W' g0 ⟨true,true,k,n,els⟩ ∧
  ∀ (j:Nat) (x:Value),j≠pos→cs[j]? = some x→∃ u,us[j]? = some u∧Rp nowhere (fun g=>O g∨g=g0) W' x u
def AN (P:Program) (g:FuncId) (args:List Value) (r:Value):Prop :=
 ∀ (O:Nat→Prop) (W:World) (vs:Array Value),Low O W→AtAll (Rp nowhere O W) args.toArray vs→Calls P g vs W fun e W' => ∃ c,e = .returned c∧Rp nowhere (fun g=>O g∨g<W.heap.size) W' r c∧Kept W W'
def LenP (n m:Nat) (els:List Value):Prop:=n=els.length∧m=els.length
def lendA (H:Nat→Option Blk):Value→Option (Value×List Nat×List Prop)
 | .slice (some ⟨i,0,some 0⟩) n _=>match H i with
  | some b=>if b.arr then some (vRow b.n b.els,[i],[LenP n b.n b.els]) else none
  | none=>none
 | .slice none 0 0=>some (vRow 0 [],[],[])
 | .bool b=>some (.bool b,[],[])
 | .iface 1000003 (.bool b)=>some (.bool b,[],[])
 | .iface 1000000 x=>some (.iface 1000000 x,[],[])
 | .int k n=>some (.int k n,[],[])
 | .string s=>some (.string s,[],[])
 | .pointer none=>some (.pointer none,[],[])
 | .nilFunc=>some (.nilFunc,[],[])
 | .nilIface=>some (.nilIface,[],[])
 | _=>none
def lendL (f:Value→Option (Value×List Nat×List Prop)):List Value→Option (List Value×List Nat×List Prop)
 | []=>some ([],[],[])
 | x::r=>match f x,lendL f r with
  | some (y,i,p),some (s,is,ps)=>some (y::s,i++is,p++ps)
  | _,_=>none
def lendV (H:Nat→Option Blk):Value→Option (Value×List Nat×List Prop)
 | .agg xs=>(lendL (lendA H) xs.toList).map fun r=>(.agg r.1.toArray,r.2)
 | v=>lendA H v
def Unlent (ρ:PMap) (O:Nat→Prop) (is:List Nat) (g:Nat):Prop:=O g∧∀ i∈is,∀ k,ρ i≠some (g,k)
section
variable {P:Program} {ρ:PMap} {O:Nat→Prop} {W:World}
theorem unlent_still (is:List Nat):Still O W (Unlent ρ O is) W:=⟨Nat.le_refl _,fun g _ h=>⟨fun h' => h h'.1,rfl⟩,Shp.of_same fun _ _=>rfl⟩
theorem unlent_sub {is js:List Nat} (h:∀ i∈is,i∈js):Still (Unlent ρ O is) W (Unlent ρ O js) W:=⟨Nat.le_refl _,fun g _ hn=>⟨fun h' => hn ⟨h'.1,fun i hi=>h'.2 i (h i hi)⟩,rfl⟩,Shp.of_same fun _ _=>rfl⟩
theorem lendA_ok {H:Nat→Option Blk} {v v' c:Value} {is:List Nat} {ob:List Prop} (h:lendA H v=some (v',is,ob)) (hob:conj ob) (hr:Rp ρ O W v c) (hh:∀ i∈is,HAt ρ O W i (H i)):Rp nowhere (Unlent ρ O is) W v' c:=by
 unfold lendA at h
 split at h
 ·next i n m =>
  split at h
  ·next b hb =>
   split at h
   ·next ha =>
    cases h
    have hH:=hh i (by simp)
    rw [hb] at hH
    obtain ⟨g,hg,hO,hB⟩:=hH
    obtain ⟨g',k',cap,h1,⟨⟨h2,h2'⟩,-⟩,hc⟩:=rp_own.1 hr
    have h1' : ρ i=some (g',k'):=h1
    rw [hg] at h1';cases h1'
    obtain ⟨⟨hn,hn'⟩,-⟩:=hob
    refine rp_row.2 ⟨some ⟨g,0,none⟩,cap,rfl,by simpa using hn',by rw [hc];simp [hn],by simpa using hn ▸ h2,h2',(fun h=>by cases h),fun _=>⟨g,0,b.k,rfl,hB.lt,fun hu=>hu.2 i (by simp) b.k hg,fun m el hel=>?_⟩⟩
    have hel' : b.els[m]? = some el:=by simpa using hel
    refine ⟨(hB.cells (arr_noMap ha) hel').1,fun j x hx=>?_⟩
    obtain ⟨u,hu,hx'⟩:=hB.cells0 hel' ha j x hx
    exact ⟨u,by simpa using hu,hx'.mono (unlent_still _) (Sub.refl _)⟩
   ·cases h
  ·cases h
 ·cases h
  obtain ⟨-,-,rfl⟩:=rp_nils.1 hr
  exact rp_row.2 ⟨none,0,rfl,rfl,rfl,by simp,by simp,fun _=>rfl,fun h=>by simp at h⟩
 ·cases h;exact rp_bool.2 (rp_bool.1 hr)
 ·cases h;exact rp_bool.2 (rp_d.1 hr)
 ·cases h;exact (rp_closed hr rfl).mono (unlent_still _) (Sub.refl _)
 ·cases h;exact rp_int.2 (rp_int.1 hr)
 ·cases h;exact (rp_closed hr rfl).mono (unlent_still _) (Sub.refl _)
 ·cases h;exact rp_nil.2 (rp_nil.1 hr)
 ·cases h;exact (rp_closed hr rfl).mono (unlent_still _) (Sub.refl _)
 ·cases h;exact (rp_closed hr rfl).mono (unlent_still _) (Sub.refl _)
 ·cases h
theorem lendL_ok {f:Value→Option (Value×List Nat×List Prop)} {H:Nat→Option Blk} (hf:∀ v v' c is ob,f v=some (v',is,ob)→conj ob→Rp ρ O W v c→(∀ i∈is,HAt ρ O W i (H i))→Rp nowhere (Unlent ρ O is) W v' c) :
  ∀ {xs:List Value} {ys:List Value} {al:List Value} {is:List Nat} {ob:List Prop},lendL f xs=some (al,is,ob)→conj ob→AtAll (Rp ρ O W) xs.toArray ys.toArray→(∀ i∈is,HAt ρ O W i (H i))→AtAll (Rp nowhere (Unlent ρ O is) W) al.toArray ys.toArray
 | [],ys,al,is,ob,h,_,ha,_=>by
  cases h
  have:ys=[]:=by have:=ha.1;simp at this;exact this
  subst this
  exact ⟨rfl,fun i x hx=>by simp at hx⟩
 | x::r,ys,al,is,ob,h,hob,ha,hh=>by
  simp only [lendL] at h
  split at h
  ·next y i p s js ps h1 h2 =>
   cases h
   match ys,ha with
   | [],ha=>have:=ha.1;simp at this
   | y0::ys,ha =>
    obtain ⟨u,hu,hr⟩:=ha.2 0 x (by simp)
    simp at hu;subst hu
    have h3:=hf _ _ _ _ _ h1 (conj_append.1 hob).1 hr (fun k hk=>hh k (by simp [hk]))
    have h4:=lendL_ok (H:=H) hf (ys:=ys) h2 (conj_append.1 hob).2 ⟨by have:=ha.1;simpa using this,fun k z hz=>by
     obtain ⟨u,hu,hr⟩:=ha.2 (k+1) z (by simpa using hz)
     exact ⟨u,by simpa using hu,hr⟩⟩ (fun k hk=>hh k (by simp [hk]))
    refine ⟨by have:=h4.1;simpa using this,fun k z hz=>?_⟩
    cases k with
    | zero=>simp at hz;subst hz;exact ⟨y0,by simp,h3.mono (unlent_sub (by intro i hi;simp [hi])) (Sub.refl _)⟩
    | succ k =>
     obtain ⟨u,hu,hr⟩:=h4.2 k z (by simpa using hz)
     exact ⟨u,by simpa using hu,hr.mono (unlent_sub (by intro i hi;simp [hi])) (Sub.refl _)⟩
  ·cases h
theorem lendV_ok {H:Nat→Option Blk} {v v' c:Value} {is:List Nat} {ob:List Prop} (h:lendV H v=some (v',is,ob)) (hob:conj ob) (hr:Rp ρ O W v c) (hh:∀ i∈is,HAt ρ O W i (H i)):Rp nowhere (Unlent ρ O is) W v' c:=by
 unfold lendV at h
 split at h
 ·next xs =>
  obtain ⟨r,hr',he⟩:=Option.map_eq_some_iff.1 h
  obtain ⟨al,js,ps⟩:=r
  cases he
  obtain ⟨ys,rfl,ha⟩:=rp_agg.1 hr
  have:=lendL_ok (H:=H) (ys:=ys.toList) (fun v v' c is ob=>lendA_ok) hr' hob (by simpa using ha) hh
  exact rp_agg.2 ⟨ys,rfl,by simpa using this⟩
 ·exact lendA_ok h hob hr hh
end
def undA:Value→Value
 | .iface 1000003 (.bool b)=>.bool b
 | v=>v
def undD:Value→Value
 | .tuple xs=>.tuple (xs.toList.map undA).toArray
 | v=>undA v
def atomicB:Value→Bool
 | .int _ _ | .bool _ | .iface 1000003 (.bool _)=>true
 | .tuple xs=>xs.toList.all fun | .int _ _ | .bool _ | .iface 1000003 (.bool _)=>true | _=>false
 | _=>false
def fnOk (P:Program) (g:FuncId):Bool :=
 match P.funcs[g]? with
 | some fn=>fn.name != "runtime.NumGoroutine"&&fn.body.isSome
 | none=>false
def evExt (P:Program) (g:FuncId) (args:List Value) (H:Nat→Option Blk) (nx:Nat) (orc:List Value):EeR :=
 match lendL (lendV H) args with
 | some (al,is,ps)=>match orc with
  | r::orc' => match r with
   | .iface 1000004 (.func (.yield pos) rs _)=>match rs.toList with
    | [.agg cs,.int _ k]=>match cs.toList[pos]? with
     | some (.iface 1000000 (.func (.yield n) els _)) =>
      some (.agg (cs.toList.set pos (.slice (some ⟨nx,0,some 0⟩) n 0)).toArray,is,(nx,some ⟨true,true,k.toNat,n,els.toList⟩)::is.map (·,none),nx+1,orc',ps++[AO P g al cs pos k.toNat])
     | _=>none
    | _=>none
   | .iface 1000012 r=>some (r,is,[],nx,orc',ps++[AN P g al (undD r)])
   | r=>if is.isEmpty||atomicB r then some (r,is,[],nx,orc',ps++[AC P g al (undD r)]) else some (r,is,is.map (·,none),nx,orc',ps++[AC P g al (undD r)])
  | []=>none
 | none=>none
section
variable {P:Program} {ρ:PMap} {O:Nat→Prop} {W:World}
theorem rp_undA {r c:Value} (h:Rp ρ O W (undA r) c):Rp ρ O W r c:=by
 unfold undA at h
 split at h
 ·exact rp_d.2 (rp_bool.1 h)
 ·exact h
theorem rp_undD {r c:Value} (h:Rp ρ O W (undD r) c):Rp ρ O W r c:=by
 unfold undD at h
 split at h
 ·next xs =>
  obtain ⟨ys,rfl,hs,hy⟩:=rp_tuple.1 h
  refine rp_tuple.2 ⟨ys,rfl,by simpa using hs,fun i x hx=>?_⟩
  obtain ⟨y,hy1,hy2⟩:=hy i (undA x) (by simp only [List.getElem?_toArray,List.getElem?_map,Array.getElem?_toList,hx];rfl)
  exact ⟨y,hy1,rp_undA hy2⟩
 ·exact rp_undA h
theorem rp_atomic {ρ' : PMap} {O' : Nat→Prop} {W' : World} {r c:Value} (h:Rp ρ O W r c) (ha:atomicB r=true):Rp ρ' O' W' r c:=by
 have one:∀ {x c:Value},Rp ρ O W x c→(match x with | .int _ _ | .bool _ | .iface 1000003 (.bool _)=>true | _=>false)=true→Rp ρ' O' W' x c:=fun {x c} h ha=>by
  split at ha
  ·exact rp_int.2 (rp_int.1 h)
  ·exact rp_bool.2 (rp_bool.1 h)
  ·exact rp_d.2 (rp_d.1 h)
  ·cases ha
 unfold atomicB at ha
 split at ha
 ·exact one h rfl
 ·exact one h rfl
 ·exact one h rfl
 ·next xs =>
  obtain ⟨ys,rfl,hs,hy⟩:=rp_tuple.1 h
  refine rp_tuple.2 ⟨ys,rfl,hs,fun i x hx=>?_⟩
  obtain ⟨y,hy1,hy2⟩:=hy i x hx
  exact ⟨y,hy1,one hy2 (List.all_eq_true.1 ha x (by simpa using Array.mem_of_getElem? hx))⟩
 ·cases ha
theorem kept_still {O:Nat→Prop} {W W' : World} (h:Kept W W'):Still O W O W' := ⟨h.size,fun g hg hO=>⟨hO,h.block g hg⟩,Shp.of_same h.block⟩
theorem run_call {o:Oper} {fo:Operand} {xs:Array Operand} {ats:Array TypeId} {f:Operand→Value} {g:FuncId} {ys us:Array Value} (ho:o.op = .call { callee:=.value fo,args:=xs,argTypes:=ats }) (hf:f fo = .func (.func g) ys us) (hg:fnOk P g=true) :
  (execOp f o).run P W = .ok (.enter g (ys++xs.map f++us)) W:=by
 unfold fnOk at hg
 split at hg
 ·next fn hfn =>
  simp only [Bool.and_eq_true,bne_iff_ne,ne_eq] at hg
  obtain ⟨c,hc⟩:=Option.isSome_iff_exists.1 hg.2
  have h1:(fn.name=="runtime.NumGoroutine")=false:=by simpa using hg.1
  have h2:fn.body.isNone=false:=by simp [hc]
  simp only [execOp,ho,resolve,hf,Deferred.ofValue,Sem.run_bind,Sem.run_pure,Result.andThen_ok,invoke,callFunc,run_program,hfn,h1,h2,Bool.false_eq_true,if_false]
 ·cases hg
theorem upon_enter' {o:Oper} {a:Act} {K:Act→World→Prop} {Q:Exit→Act→World→Prop} {g:FuncId} {vs:Array Value} {W' : World} (hr:(execOp a.eval o).run P W = .ok (.enter g vs) W') (h:Calls P g vs W' fun e w=>∃ c,e = .returned c∧K (a.put o.dst c) w):o.wp P a W K Q:=by
 unfold Oper.wp
 rw [hr]
 show Calls P g vs W' _
 exact h.mono fun e w ⟨c,he,hk⟩=>by subst he;exact hk
theorem low_unlent {is:List Nat} (h:Low O W):Low (Unlent ρ O is) W:=fun g hg=>h g hg.1
theorem evExt_ok {bd:Nat} {o:Oper} {fo:Operand} {xs:Array Operand} {ats:Array TypeId} {e:Operand→Value} {g:FuncId} {fs cs:Array Value} {H:Nat→Option Blk} {nx nx' : Nat} {orc orc' : List Value} {v:Value} {rd:List Nat} {wr:List (Nat×Option Blk)} {ob:List Prop}
  (ho:o.op = .call { callee:=.value fo,args:=xs,argTypes:=ats }) (hfo:e fo = .func (.func g) fs cs) (hg:fnOk P g=true)
  (h:evExt P g (fs.toList++xs.toList.map e++cs.toList) H nx orc=some (v,rd,wr,nx',orc',ob)) (hob:conj ob):OpDo P bd o e H nx nx' rd wr v:=by
 intro ρ O a W K Q hl he hrd _ hfr _ _ hK
 have hf:=he fo (by simp [ho,Op.operands,Call.operands])
 rw [hfo] at hf
 obtain ⟨ys,us,hfv,ha1,ha2⟩:=rp_func.1 hf
 have hargs:AtAll (Rp ρ O W) (fs.toList++xs.toList.map e++cs.toList).toArray (ys++xs.map a.eval++us).toList.toArray:=by
  have h1:=ha1.1
  have h2:=ha2.1
  refine ⟨by simp;omega,fun i x hx=>?_⟩
  simp only [Array.toArray_toList,List.getElem?_toArray,List.getElem?_append,Array.getElem?_append,List.length_append,List.length_map,Array.length_toList,Array.size_append,Array.size_map,h1,List.getElem?_map,Array.getElem?_toList,Array.getElem?_map] at hx ⊢
  split at hx
  ·next c1 =>
   rw [if_pos c1]
   split at hx
   ·next c2=>rw [if_pos c2];exact ha1.2 i x hx
   ·next c2 =>
    rw [if_neg c2]
    obtain ⟨y,hy,rfl⟩:=Option.map_eq_some_iff.1 hx
    exact ⟨a.eval y,by rw [hy];rfl,he y (by simp only [ho,Op.operands,Call.operands];simp [Array.mem_of_getElem? hy])⟩
  ·next c1 =>
   rw [if_neg c1]
   exact ha2.2 _ x hx
 have hrun:=run_call (P:=P) (W:=W) (f:=a.eval) ho hfv hg
 unfold evExt at h
 split at h
 ·next al is ps hlend =>
  have lent:conj ps→(∀ i∈is,HAt ρ O W i (H i))→AtAll (Rp nowhere (Unlent ρ O is) W) al.toArray (ys++xs.map a.eval++us):=fun h1 h2=>by
   have:=lendL_ok (H:=H) (fun v v' c is ob=>lendV_ok) hlend h1 hargs h2
   rwa [Array.toArray_toList] at this
  split at h
  ·next r orc1 =>
   split at h
   ·next pos rs zs =>
    split at h
    ·next cs' kk k hrs =>
     split at h
     ·next n els zs' hcs =>
      cases h
      obtain ⟨hp,hAO,-⟩:=conj_append.1 hob
      refine upon_enter' hrun ((hAO _ W _ (low_unlent hl) (lent hp hrd)).mono ?_)
      rintro e' W' ⟨us',g0,n',els',cap,rfl,hsz,hkept,hg0,hc0,hn1,hn2,hu0,hB,hrest⟩
      have hcs' : cs'[pos]? = some (.iface 1000000 (.func (.yield n) els zs')):=by simpa using hcs
      rw [hcs'] at hc0
      have e1:n=n' ∧ els=els'.toArray:=by
       have:=Option.some.inj hc0
       unfold vRow at this
       injection this with _ h2
       injection h2 with h3 h4 _
       injection h3 with h5
       exact ⟨h5,h4⟩
      obtain ⟨rfl,rfl⟩:=e1
      have hnone:=hfr nx (Nat.le_refl _) (by omega)
      have hsub:Sub ρ (fun i=>if i=nx then some (g0,k.toNat) else ρ i):=fun i p hi=>by
       by_cases e:i=nx
       ·subst e;rw [hnone] at hi;cases hi
       ·simpa [e] using hi
      refine ⟨_,rfl,hK _ (fun i=>if i=nx then some (g0,k.toNat) else ρ i) (fun g=>Unlent ρ O rd g∨g=g0) W' (rp_agg.2 ⟨us',rfl,by simpa using hsz,fun i x hx=>?_⟩) (fun p hp=>?_)
       ⟨hsub,fun i p hi=>?_,⟨hkept.size,fun g hg hO=>⟨fun h=>h.elim (fun h=>hO h.1) (fun h=>by omega),hkept.block g hg⟩,Shp.of_same hkept.block⟩,fun g h=>h.elim (fun h=>Nat.lt_of_lt_of_le (hl g h.1) hkept.size) (fun h=>h ▸ hB.lt),fun g hg hno=>.inl ⟨hg,fun i hi k=>hno i (by simp [hi]) k⟩,⟨hkept.tape,hkept.os,hkept.output⟩,fun g hg _=>hkept.block g hg⟩⟩
      ·simp only [List.getElem?_toArray,List.getElem?_set,Array.getElem?_toList,Array.length_toList] at hx
       by_cases e:pos=i
       ·subst e
        have hlt:pos<cs'.size:=(Array.getElem?_eq_some_iff.1 hcs').1
        simp only [if_true,hlt,Option.some.injEq] at hx
        subst hx
        exact ⟨_,hu0,rp_own.2 ⟨g0,k.toNat,cap,by simp,⟨⟨hn1,hn2.1⟩,by simpa using hn2.2⟩,by simp⟩⟩
       ·simp only [e,if_false] at hx
        obtain ⟨u,hu,hr⟩:=hrest i x (Ne.symm e) hx
        exact ⟨u,hu,hr.mono (Still.refl _ _) (sub_nowhere _)⟩
      ·rcases List.mem_cons.1 hp with rfl | hp
       ·exact ⟨g0,by simp,.inr rfl,hB.mono (Still.refl _ _) (sub_nowhere _) rfl⟩
       ·obtain ⟨i,-,rfl⟩:=List.mem_map.1 hp;trivial
      ·by_cases e:i=nx
       ·subst e;simp at hi;subst hi;exact .inr ⟨Nat.le_refl _,by omega,.inl hg0⟩
       ·simp [e] at hi;exact .inl hi
     ·cases h
    ·cases h
   ·cases h
    obtain ⟨hp,hAN,-⟩:=conj_append.1 hob
    refine upon_enter' hrun ((hAN _ W _ (low_unlent hl) (lent hp hrd)).mono ?_)
    rintro e' W' ⟨c,rfl,hr,hkept⟩
    exact ⟨_,rfl,hK _ ρ O W' ((rp_undD hr).mono ⟨Nat.le_refl _,fun g _ hn=>⟨fun hO=>hn (.inr (hl g hO)),rfl⟩,Shp.of_same fun _ _=>rfl⟩ (sub_nowhere _)) (fun p hp=>by cases hp) ⟨Sub.refl _,fun _ _ h=>.inl h,kept_still hkept,fun g hg=>Nat.lt_of_lt_of_le (hl g hg) hkept.size,fun _ h _=>h,⟨hkept.tape,hkept.os,hkept.output⟩,fun g hg _=>hkept.block g hg⟩⟩
   ·split at h
    ·next hc =>
     cases h
     obtain ⟨hp,hAC,-⟩:=conj_append.1 hob
     refine upon_enter' hrun ((hAC _ W _ (low_unlent hl) (lent hp hrd)).mono ?_)
     rintro e' W' ⟨c,rfl,hr,hkept⟩
     have hr' : Rp ρ O W' v c:=by
      rcases Bool.or_eq_true_iff.1 hc with h1 | h1
      ·have h2:rd=[]:=List.isEmpty_iff.1 h1
       subst h2
       exact (rp_undD hr).mono ⟨Nat.le_refl _,fun g _ hn=>⟨fun hO=>hn ⟨hO,fun i hi=>by cases hi⟩,rfl⟩,Shp.of_same fun _ _=>rfl⟩ (sub_nowhere _)
      ·exact rp_atomic (rp_undD hr) h1
     exact ⟨_,rfl,hK _ ρ O W' hr' (fun p hp=>by cases hp) ⟨Sub.refl _,fun _ _ h=>.inl h,kept_still hkept,fun g hg=>Nat.lt_of_lt_of_le (hl g hg) hkept.size,fun _ h _=>h,⟨hkept.tape,hkept.os,hkept.output⟩,fun g hg _=>hkept.block g hg⟩⟩
    ·cases h
     obtain ⟨hp,hAC,-⟩:=conj_append.1 hob
     refine upon_enter' hrun ((hAC _ W _ (low_unlent hl) (lent hp hrd)).mono ?_)
     rintro e' W' ⟨c,rfl,hr,hkept⟩
     refine ⟨_,rfl,hK _ ρ (Unlent ρ O rd) W' ((rp_undD hr).mono (Still.refl _ _) (sub_nowhere _)) (fun p hp=>by obtain ⟨i,-,rfl⟩:=List.mem_map.1 hp;trivial) ⟨Sub.refl _,fun _ _ h=>.inl h,⟨hkept.size,fun g hg hO=>⟨fun h=>hO h.1,hkept.block g hg⟩,Shp.of_same hkept.block⟩,fun g hg=>Nat.lt_of_lt_of_le (hl g hg.1) hkept.size,fun g hg hno=>⟨hg,fun i hi k=>hno i (by simp [hi]) k⟩,⟨hkept.tape,hkept.os,hkept.output⟩,fun g hg _=>hkept.block g hg⟩⟩
  ·cases h
 ·cases h
end
end
section
open Go.RowKit
structure Sg where
 T:List Value
 H:List (Option Blk)
def look (H:List (Option Blk)) (i:Nat):Option Blk :=
 match H[i]? with
 | some x=>x
 | none=>none
structure HConc (ρ:PMap) (O:Nat→Prop) (H:List (Option Blk)) (W:World):Prop where
 low:Low O W
 fr:∀ i,H.length≤i→ρ i=none
 hp:∀ i,HAt ρ O W i (look H i)
 inj:∀ i j b b' g k k',look H i=some b→look H j=some b' → ρ i=some (g,k)→ρ j=some (g,k')→i=j
structure TConc (ρ:PMap) (O:Nat→Prop) (T:List Value) (a:Act) (W:World):Prop where
 df:a.defers=[]
 sz:a.tmps.size=T.length
 tm:∀ (t:Nat) (v:Value),T[t]? = some v→∃ c,a.tmps[t]? = some c∧Rp ρ O W v c
structure Ext (ρ:PMap) (O:Nat→Prop) (H:List (Option Blk)) (W:World) (ρ' : PMap) (O' : Nat→Prop) (H' : List (Option Blk)) (W' : World):Prop where
 sub:Sub ρ ρ'
 new:∀ i p,ρ' i=some p→ρ i=some p∨(H.length≤i∧(W.heap.size≤p.1∨∃ j b k,look H j=some b∧b.w=true∧ρ j=some (p.1,k)))
 still:Still O W O' W'
 keepO:∀ g,O g→(∀ i b,look H i=some b→∀ k,ρ i≠some (g,k))→O' g
 live:∀ i b',look H' i=some b' → (∃ b,look H i=some b∧(b'.w=true→b.w=true))∨H.length≤i
 str:W'.tape=W.tape∧W'.os=W.os∧W'.output=W.output
 blk:∀ g,g<W.heap.size→(∀ i b,look H i=some b→b.w=true→∀ k,ρ i≠some (g,k))→W'.heap[g]? = W.heap[g]?
 keep:∀ i b,look H i=some b→b.w=false→look H' i=some b
 len:H.length≤H'.length
theorem look_lt {H:List (Option Blk)} {i:Nat} {b:Blk} (h:look H i=some b):i<H.length:=by
 unfold look at h
 split at h
 ·next x hx=>exact (List.getElem?_eq_some_iff.1 hx).1
 ·cases h
theorem Still.trans {O O' O'' : Nat→Prop} {W W' W'' : World} (h:Still O W O' W') (k:Still O' W' O'' W''):Still O W O'' W'' :=
 ⟨Nat.le_trans h.size k.size,fun g hg hO=>⟨(k.pl g (Nat.lt_of_lt_of_le hg h.size) (h.pl g hg hO).1).1,((k.pl g (Nat.lt_of_lt_of_le hg h.size) (h.pl g hg hO).1).2).trans (h.pl g hg hO).2⟩,h.shp.trans k.shp⟩
section
variable {ρ ρ' ρ'' : PMap} {O O' O'' : Nat→Prop} {H H' H'' : List (Option Blk)} {W W' W'' : World}
theorem Ext.refl (ρ:PMap) (O:Nat→Prop) (H:List (Option Blk)) (W:World):Ext ρ O H W ρ O H W :=
 ⟨Sub.refl _,fun _ _ h=>.inl h,Still.refl _ _,fun _ h _=>h,fun _ b h=>.inl ⟨b,h,fun h=>h⟩,⟨rfl,rfl,rfl⟩,fun _ _ _=>rfl,fun _ _ h _=>h,Nat.le_refl _⟩
theorem Ext.trans (h:Ext ρ O H W ρ' O' H' W') (k:Ext ρ' O' H' W' ρ'' O'' H'' W'') (hc:HConc ρ O H W):Ext ρ O H W ρ'' O'' H'' W'' := by
 have old:∀ g,g<W.heap.size→∀ i b k,look H' i=some b→ρ' i=some (g,k)→∃ i0 b0 k0,look H i0=some b0∧(b.w=true→b0.w=true)∧ρ i0=some (g,k0):=fun g hg i b k hi hk=>by
  rcases h.live i b hi with ⟨b0,h1,h2⟩ | h1
  ·rcases h.new i _ hk with h3 | ⟨h3,-⟩
   ·exact ⟨i,b0,k,h1,h2,h3⟩
   ·have:=look_lt h1;omega
  ·rcases h.new i _ hk with h3 | ⟨-,h3 | ⟨j,bj,kj,h3,h4,h5⟩⟩
   ·rw [hc.fr i h1] at h3;cases h3
   ·simp at h3;omega
   ·exact ⟨j,bj,kj,h3,fun _=>h4,h5⟩
 refine ⟨h.sub.trans k.sub,fun i p hp=>?_,h.still.trans k.still,fun g hg hno=>?_,fun i b hb=>?_,⟨k.str.1.trans h.str.1,k.str.2.1.trans h.str.2.1,k.str.2.2.trans h.str.2.2⟩,fun g hg hno=>?_,fun i b hi hw=>k.keep i b (h.keep i b hi hw) hw,Nat.le_trans h.len k.len⟩
 ·rcases k.new i p hp with h1 | ⟨h1,h2 | ⟨j,b,kj,h2,h3,h4⟩⟩
  ·exact h.new i p h1
  ·exact .inr ⟨Nat.le_trans h.len h1,.inl (Nat.le_trans h.still.size h2)⟩
  ·refine .inr ⟨Nat.le_trans h.len h1,?_⟩
   by_cases hg:p.1<W.heap.size
   ·obtain ⟨i0,b0,k0,h5,h6,h7⟩:=old p.1 hg j b kj h2 h4
    exact .inr ⟨i0,b0,k0,h5,h6 h3,h7⟩
   ·exact .inl (by omega)
 ·refine k.keepO g (h.keepO g hg hno) fun i b hi m hm=>?_
  obtain ⟨i0,b0,k0,h1,-,h2⟩:=old g (hc.low g hg) i b m hi hm
  exact hno i0 b0 h1 k0 h2
 ·rcases k.live i b hb with ⟨b1,h1,h2⟩ | h1
  ·rcases h.live i b1 h1 with ⟨b0,h3,h4⟩ | h3
   ·exact .inl ⟨b0,h3,fun h=>h4 (h2 h)⟩
   ·exact .inr h3
  ·exact .inr (Nat.le_trans h.len h1)
 ·refine (k.blk g (Nat.lt_of_lt_of_le hg h.still.size) fun i b hi hw m hm=>?_).trans (h.blk g hg hno)
  obtain ⟨i0,b0,k0,h1,h2,h3⟩:=old g hg i b m hi hm
  exact hno i0 b0 h1 (h2 hw) k0 h3
end
def setAll (H:List (Option Blk)):List (Nat×Option Blk)→List (Option Blk)
 | []=>H
 | p::r=>setAll (H.set p.1 p.2) r
def applyW (H:List (Option Blk)) (wr:List (Nat×Option Blk)) (nx' : Nat):List (Option Blk):=setAll (H++List.replicate (nx' - H.length) none) wr
def noDup:List Nat→Bool
 | []=>true
 | x::r=>r.all (fun y=>!(y==x))&&noDup r
def wrOk (H:List (Option Blk)) (wr:List (Nat×Option Blk)) (nx' : Nat):Bool :=
 noDup (wr.map (·.1))&&Nat.ble H.length nx' && Nat.ble nx' (H.length+1)&&wr.all fun p =>
  match look H p.1 with
  | some b=>b.w
  | none=>Nat.ble H.length p.1&&Nat.blt p.1 nx'
theorem setAll_len:∀ (wr:List (Nat×Option Blk)) (H:List (Option Blk)),(setAll H wr).length=H.length
 | [],_=>rfl
 | p::r,H=>by rw [setAll,setAll_len r];simp
theorem look_set {H:List (Option Blk)} {i j:Nat} {x:Option Blk} (hi:i<H.length):look (H.set i x) j=if i=j then x else look H j:=by
 unfold look
 rw [List.getElem?_set]
 by_cases e:i=j
 ·subst e;simp [hi]
 ·simp [e]
theorem look_setAll_not:∀ {wr:List (Nat×Option Blk)} {H:List (Option Blk)} {i:Nat},i∉wr.map (·.1)→look (setAll H wr) i=look H i
 | [],_,_,_=>rfl
 | p::r,H,i,h=>by
  simp only [List.map_cons,List.mem_cons,not_or] at h
  rw [setAll,look_setAll_not h.2]
  unfold look
  rw [List.getElem?_set_ne (Ne.symm h.1)]
theorem look_setAll_mem:∀ {wr:List (Nat×Option Blk)} {H:List (Option Blk)} {i:Nat} {x:Option Blk},noDup (wr.map (·.1))=true→(i,x)∈wr→i<H.length→look (setAll H wr) i=x
 | p::r,H,i,x,hn,hm,hi=>by
  simp only [List.map_cons,noDup,Bool.and_eq_true,List.all_eq_true,Bool.not_eq_true',beq_eq_false_iff_ne] at hn
  rw [setAll]
  rcases List.mem_cons.1 hm with rfl | hm
  ·rw [look_setAll_not (fun h=>(hn.1 i h) rfl),look_set hi,if_pos rfl]
  ·exact look_setAll_mem hn.2 hm (by simpa using hi)
theorem look_pad {H:List (Option Blk)} {n i:Nat}:look (H++List.replicate n none) i=look H i:=by
 unfold look
 by_cases hi:i<H.length
 ·rw [List.getElem?_append_left hi]
 ·rw [List.getElem?_append_right (by omega),List.getElem?_replicate]
  have:H[i]? = none:=by simp;omega
  rw [this]
  by_cases h:i - H.length<n <;> simp [h]
theorem wrOk_spec {H:List (Option Blk)} {wr:List (Nat×Option Blk)} {nx' : Nat} (h:wrOk H wr nx' = true):noDup (wr.map (·.1))=true∧H.length≤nx' ∧ nx' ≤ H.length+1∧∀ p∈wr,(∃ b,look H p.1=some b∧b.w=true)∨(look H p.1=none∧H.length≤p.1∧p.1<nx'):=by
 simp only [wrOk,Bool.and_eq_true,Nat.ble_eq,List.all_eq_true] at h
 obtain ⟨⟨⟨h1,h2⟩,h3⟩,h4⟩:=h
 refine ⟨h1,h2,h3,fun p hp=>?_⟩
 have:=h4 p hp
 split at this
 ·next b hb=>exact .inl ⟨b,hb,this⟩
 ·next hb=>simp only [Bool.and_eq_true,Nat.ble_eq,Nat.blt_eq] at this;exact .inr ⟨hb,this⟩
theorem applyW_len {H:List (Option Blk)} {wr:List (Nat×Option Blk)} {nx' : Nat} (h:H.length≤nx'):(applyW H wr nx').length=nx' := by
 unfold applyW
 rw [setAll_len];simp;omega
theorem look_applyW {H:List (Option Blk)} {wr:List (Nat×Option Blk)} {nx' : Nat} (h:wrOk H wr nx' = true) (i:Nat):(i∉wr.map (·.1)∧look (applyW H wr nx') i=look H i)∨∃ x,(i,x)∈wr∧look (applyW H wr nx') i=x:=by
 obtain ⟨h1,h2,h3,h4⟩:=wrOk_spec h
 by_cases hm:i∈wr.map (·.1)
 ·obtain ⟨p,hp,rfl⟩:=List.mem_map.1 hm
  refine .inr ⟨p.2,hp,look_setAll_mem h1 hp ?_⟩
  have:p.1<nx' := by
   rcases h4 p hp with ⟨b,hb,-⟩ | ⟨-,-,hb⟩
   ·have:=look_lt hb;omega
   ·exact hb
  simp;omega
 ·exact .inl ⟨hm,by unfold applyW;rw [look_setAll_not hm,look_pad]⟩
def putT (T:List Value) (dst:Option Tmp) (v:Value):List Value :=
 match dst with
 | some d=>T.set d v
 | none=>T
theorem tconc_put {ρ:PMap} {O:Nat→Prop} {T:List Value} {a:Act} {W:World} (h:TConc ρ O T a W) (dst:Option Tmp) {v c:Value} (hv:Rp ρ O W v c):TConc ρ O (putT T dst v) (a.put dst c) W:=by
 cases dst with
 | none=>exact h
 | some d =>
  refine ⟨h.df,by simp [Act.put,putT,h.sz],fun t u hu=>?_⟩
  simp only [putT,List.getElem?_set] at hu
  simp only [Act.put,Array.getElem?_setIfInBounds]
  by_cases e:d=t
  ·subst e
   simp only [if_true] at hu
   split at hu
   ·next hd=>cases hu;exact ⟨c,by simp [h.sz,hd],hv⟩
   ·cases hu
  ·simp only [e,if_false] at hu ⊢
   exact h.tm t u hu
theorem TConc.mono {ρ ρ' : PMap} {O O' : Nat→Prop} {T:List Value} {a:Act} {W W' : World} (h:TConc ρ O T a W) (hs:Still O W O' W') (hr:Sub ρ ρ'):TConc ρ' O' T a W' :=
 ⟨h.df,h.sz,fun t v hv=>let ⟨c,hc,hx⟩:=h.tm t v hv;⟨c,hc,hx.mono hs hr⟩⟩
theorem step_conc {ρ ρ' : PMap} {O O' : Nat→Prop} {H:List (Option Blk)} {W W' : World} {wr:List (Nat×Option Blk)} {nx' : Nat} (hc:HConc ρ O H W) (hw:wrOk H wr nx' = true) (hs:Step ρ O W ρ' O' W' (wr.map (·.1)) (kills wr) H.length nx') (hp:∀ p∈wr,HAt ρ' O' W' p.1 p.2) :
  HConc ρ' O' (applyW H wr nx') W' ∧ Ext ρ O H W ρ' O' (applyW H wr nx') W' := by
 obtain ⟨h1,h2,h3,h4⟩:=wrOk_spec hw
 have hold:∀ i p,i<H.length→ρ' i=some p→ρ i=some p:=fun i p hi h=>(hs.new i p h).resolve_right (fun h=>by omega)
 have hblk:∀ i b g k,look H i=some b→ρ i=some (g,k)→O g∧g<W.heap.size:=fun i b g k hi hk=>by
  have:=hc.hp i
  rw [hi] at this
  obtain ⟨g',hg',hO,hB⟩:=this
  rw [hk] at hg';cases hg'
  exact ⟨hO,hB.lt⟩
 have hkeep:∀ i b,look H i=some b→i∉wr.map (·.1)→HAt ρ' O' W' i (some b):=fun i b hi hni=>by
  have:=hc.hp i
  rw [hi] at this
  obtain ⟨g,hg,hO,hB⟩:=this
  have hno:∀ j∈wr.map (·.1),∀ k,ρ j≠some (g,k):=fun j hj k hk=>by
   obtain ⟨p,hpm,rfl⟩:=List.mem_map.1 hj
   rcases h4 p hpm with ⟨b',hb',-⟩ | ⟨-,hb',-⟩
   ·have:=hc.inj i p.1 b b' g _ _ hi hb' hg hk
    exact hni (this ▸ hj)
   ·rw [hc.fr _ hb'] at hk;cases hk
  exact ⟨g,hs.sub _ _ hg,hs.keepO g hO hno,hB.mono hs.still hs.sub (hs.blk g hB.lt hno)⟩
 have hkill:∀ j∈kills wr,(j,none)∈wr:=fun j hj=>by
  obtain ⟨p,hp,rfl⟩:=List.mem_map.1 hj
  obtain ⟨hp1,hp2⟩:=List.mem_filter.1 hp
  have:p=(p.1,none):=by obtain ⟨a,b⟩:=p;cases b <;> simp_all
  rw [← this];exact hp1
 have killW:∀ j∈kills wr,∀ p,ρ j=some p→∃ b,look H j=some b∧b.w=true:=fun j hj p hp=>by
  rcases h4 _ (hkill j hj) with h | ⟨-,h,-⟩
  ·exact h
  ·rw [hc.fr j h] at hp;cases hp
 have hlen:=applyW_len (wr:=wr) h2
 refine ⟨⟨hs.low,fun i hi=>?_,fun i=>?_,fun i j b b' g k k' hi hj hgi hgj=>?_⟩,⟨hs.sub,fun i p h=>(hs.new i p h).imp id (fun h=>⟨h.1,h.2.2.imp id fun ⟨j,hj,k,hk⟩=>(killW j hj _ hk).elim fun b hb=>⟨j,b,k,hb.1,hb.2,hk⟩⟩),hs.still,fun g hg hno=>hs.keepO g hg fun i hi k hk=>?_,fun i b hb=>?_,hs.str,fun g hg hno=>hs.blk g hg fun i hi k hk=>?_,fun i b hi hwf=>?_,by omega⟩⟩
 ·rw [hlen] at hi
  cases hh:ρ' i with
  | none=>rfl
  | some p =>
   rcases hs.new i p hh with h | ⟨-,h,-⟩
   ·rw [hc.fr i (by omega)] at h;cases h
   ·omega
 ·rcases look_applyW hw i with ⟨h5,h6⟩ | ⟨x,h5,h6⟩
  ·rw [h6]
   cases hl:look H i with
   | none=>trivial
   | some b=>exact hkeep i b hl h5
  ·rw [h6];exact hp _ h5
 ·have cls:∀ i b g k,look (applyW H wr nx') i=some b→ρ' i=some (g,k)→(∃ b0,look H i=some b0∧ρ i=some (g,k))∨(H.length≤i∧i<nx' ∧ (W.heap.size≤g∨∃ j∈kills wr,∃ k,ρ j=some (g,k))):=fun i b g k hi hk=>by
   have:(∃ b0,look H i=some b0)∨H.length≤i:=by
    rcases look_applyW hw i with ⟨-,h6⟩ | ⟨x,h5,h6⟩
    ·exact .inl ⟨b,h6 ▸ hi⟩
    ·rcases h4 _ h5 with ⟨b',hb',-⟩ | ⟨-,hb',-⟩
     ·exact .inl ⟨b',hb'⟩
     ·exact .inr hb'
   rcases this with ⟨b0,hb0⟩ | hge
   ·exact .inl ⟨b0,hb0,hold i _ (look_lt hb0) hk⟩
   ·rcases hs.new i _ hk with h | h
    ·rw [hc.fr i hge] at h;cases h
    ·exact .inr h
  have apart:∀ i b b0 g k,look (applyW H wr nx') i=some b→look H i=some b0→ρ i=some (g,k)→(W.heap.size≤g∨∃ j∈kills wr,∃ k,ρ j=some (g,k))→False:=fun i b b0 g k h5 h6 h7 h8=>by
   rcases h8 with h8 | ⟨m,hm,km,h8⟩
   ·have:=(hblk i b0 g k h6 h7).2;omega
   ·obtain ⟨bm,hbm,-⟩:=killW m hm _ h8
    have:=hc.inj i m b0 bm g k km h6 hbm h7 h8
    subst this
    rcases look_applyW hw i with ⟨h9,-⟩ | ⟨x,h9,h10⟩
    ·exact h9 (List.mem_map.2 ⟨_,hkill i hm,rfl⟩)
    ·have:=look_setAll_mem (H:=H++List.replicate (nx' - H.length) none) h1 (hkill i hm) (by have:=look_lt h6;simp;omega)
     have h11:look (applyW H wr nx') i=none:=this
     rw [h11] at h5;cases h5
  rcases cls i b g k hi hgi with ⟨b0,h5,h6⟩ | h5 <;> rcases cls j b' g k' hj hgj with ⟨b1,h7,h8⟩ | h7
  ·exact hc.inj i j b0 b1 g k k' h5 h7 h6 h8
  ·exact (apart i b b0 g k hi h5 h6 h7.2.2).elim
  ·exact (apart j b' b1 g k' hj h7 h8 h5.2.2).elim
  ·omega
 ·obtain ⟨p,hpm,rfl⟩:=List.mem_map.1 hi
  rcases h4 p hpm with ⟨b',hb',-⟩ | ⟨-,hb',-⟩
  ·exact hno _ b' hb' k hk
  ·rw [hc.fr _ hb'] at hk;cases hk
 ·rcases look_applyW hw i with ⟨-,h6⟩ | ⟨x,h5,h6⟩
  ·exact .inl ⟨b,h6 ▸ hb,fun h=>h⟩
  ·rcases h4 _ h5 with ⟨b',hb',hw'⟩ | ⟨-,hb',-⟩
   ·exact .inl ⟨b',hb',fun _=>hw'⟩
   ·exact .inr hb'
 ·obtain ⟨p,hpm,rfl⟩:=List.mem_map.1 hi
  rcases h4 p hpm with ⟨b',hb',hw'⟩ | ⟨-,hb',-⟩
  ·exact hno _ b' hb' hw' k hk
  ·rw [hc.fr _ hb'] at hk;cases hk
 ·rcases look_applyW hw i with ⟨-,h6⟩ | ⟨x,h5,h6⟩
  ·rw [h6];exact hi
  ·rcases h4 _ h5 with ⟨b',hb',hw'⟩ | ⟨hb',-⟩
   ·have hb'' : look H i=some b' := hb'
    rw [hi] at hb'';cases hb'';rw [hw'] at hwf;cases hwf
   ·have hb'' : look H i=none:=hb'
    rw [hi] at hb'';cases hb''
end
section
open Go.RowKit
def renA0 (f:Nat→Option Nat):Value→Value
 | .pointer (some ⟨j,n,some s⟩)=>match f j with
  | some k=>.pointer (some ⟨k,n,some s⟩)
  | none=>vUnk
 | .slice (some ⟨j,n,some s⟩) l c=>match f j with
  | some k=>.slice (some ⟨k,n,some s⟩) l c
  | none=>vUnk
 | .map (some j)=>match f j with
  | some k=>.map (some k)
  | none=>vUnk
 | v=>if closedB v then v else vUnk
def renD (f:Nat→Option Nat):Nat→Value→Value
 | 0,v=>renA0 f v
 | n+1,v=>match v with
  | .func fn fs cs=>.func fn (fs.toList.map (renD f n)).toArray (cs.toList.map (renD f n)).toArray
  | .iface 1000007 (.tuple cs)=>.iface 1000007 (.tuple (cs.toList.map (renD f n)).toArray)
  | v=>renA0 f v
def renA (f:Nat→Option Nat) (v:Value):Value:=renD f 4 v
def renU (f:Nat→Option Nat):Value→Value
 | .agg xs=>.agg (xs.toList.map (renA f)).toArray
 | v=>renA f v
def renV (f:Nat→Option Nat):Value→Value
 | .tuple xs=>.tuple (xs.toList.map (renU f)).toArray
 | v=>renU f v
def renM (f:Nat→Option Nat):Value→Value
 | .agg xs=>.agg (xs.toList.map (renU f)).toArray
 | v=>renU f v
def renB (f:Nat→Option Nat) (b:Blk):Option Blk :=
 match b.arr with
 | true=>some b
 | false=>if b.els.all okV then some { b with els:=b.els.map (match b.isMap with | true=>renM f | false=>renU f) } else none
def posN (j:Nat):List Nat→Nat→Option Nat
 | [],_=>none
 | i::r,k=>match i==j with
  | true=>some k
  | false=>posN j r (k+1)
def nodN:List Nat→Bool
 | []=>true
 | i::r=>(r.all fun j=>!(j==i))&&nodN r
def canonH (f:Nat→Option Nat) (H:List (Option Blk)):List Nat→Option (List (Option Blk))
 | []=>some []
 | i::r=>match look H i with
  | some b=>if b.w then match renB f b,canonH f H r with
   | some b',some s=>some (some b' :: s)
   | _,_=>none
   else none
  | none=>none
def canon (im keep:List Nat) (s:Sg):Option Sg :=
 if nodN im then (canonH (fun j=>posN j im 0) s.H im).map fun H=>⟨s.T.zipIdx.map fun x=>if keep.any (fun t=>t==x.2) then renV (fun j=>posN j im 0) x.1 else vUnk,H⟩ else none
section
variable {ρ ρ2:PMap} {O:Nat→Prop} {W:World} {f:Nat→Option Nat}
theorem rp_renA0 (hf:∀ j k p,f j=some k→ρ j=some p→ρ2 k=some p) {v c:Value} (h:Rp ρ O W v c):Rp ρ2 O W (renA0 f v) c:=by
 unfold renA0
 split
 ·next j n s =>
  split
  ·next k hk =>
   obtain ⟨g,k',j',h1,h2,h3⟩:=rp_ptr.1 h
   exact rp_ptr.2 ⟨g,k',j',hf _ _ _ hk h1,h2,h3⟩
  ·exact rp_unk _
 ·next j n s l c =>
  split
  ·next k hk =>
   obtain ⟨g,k',cap,h1,h2,h3⟩:=rp_own.1 h
   exact rp_own.2 ⟨g,k',cap,hf _ _ _ hk h1,h2,h3⟩
  ·exact rp_unk _
 ·next j =>
  split
  ·next k hk =>
   obtain ⟨g,h1,h2⟩:=rp_map.1 h
   exact rp_map.2 ⟨g,hf _ _ _ hk h1,h2⟩
  ·exact rp_unk _
 ·split
  ·next hc=>exact (rp_closed h hc).mono (Still.refl _ _) (sub_nowhere _)
  ·exact rp_unk _
theorem at_map {R R' : Value→Value→Prop} {g:Value→Value} (hR:∀ x y,R x y→R' (g x) y) {xs ys:Array Value} (h:AtAll R xs ys):AtAll R' (xs.toList.map g).toArray ys:=by
 refine ⟨by simpa using h.1,fun i x hx=>?_⟩
 simp only [List.getElem?_toArray,List.getElem?_map,Array.getElem?_toList] at hx
 obtain ⟨u,hu,rfl⟩:=Option.map_eq_some_iff.1 hx
 obtain ⟨y,hy,hr⟩:=h.2 i u hu
 exact ⟨y,hy,hR _ _ hr⟩
theorem rp_renD (hf:∀ j k p,f j=some k→ρ j=some p→ρ2 k=some p):∀ (n:Nat) {v c:Value},Rp ρ O W v c→Rp ρ2 O W (renD f n v) c
 | 0,_,_,h=>rp_renA0 hf h
 | n+1,v,c,h=>by
  unfold renD
  split
  ·next fn fs cs =>
   obtain ⟨ys,us,rfl,h1,h2⟩:=rp_func.1 h
   exact rp_func.2 ⟨ys,us,rfl,at_map (g:=renD f n) (fun _ _=>rp_renD hf n) h1,at_map (g:=renD f n) (fun _ _=>rp_renD hf n) h2⟩
  ·next cs =>
   obtain ⟨g,o,rfl,h1,h2,h3⟩:=rp_fz.1 h
   refine rp_fz.2 ⟨g,o,rfl,h1,h2,fun j x hx=>?_⟩
   simp only [List.getElem?_toArray,List.getElem?_map,Array.getElem?_toList] at hx
   obtain ⟨x0,hx0,rfl⟩:=Option.map_eq_some_iff.1 hx
   obtain ⟨u,hu,hr⟩:=h3 j x0 hx0
   exact ⟨u,hu,rp_renD hf n hr⟩
  ·exact rp_renA0 hf h
theorem rp_renA (hf:∀ j k p,f j=some k→ρ j=some p→ρ2 k=some p) {v c:Value} (h:Rp ρ O W v c):Rp ρ2 O W (renA f v) c:=rp_renD hf 4 h
theorem rp_renU (hf:∀ j k p,f j=some k→ρ j=some p→ρ2 k=some p) {v c:Value} (h:Rp ρ O W v c):Rp ρ2 O W (renU f v) c:=by
 unfold renU
 split
 ·obtain ⟨ys,rfl,ha⟩:=rp_agg.1 h
  exact rp_agg.2 ⟨ys,rfl,at_map (g:=renA f) (fun _ _=>rp_renA hf) ha⟩
 ·exact rp_renA hf h
theorem rp_renV (hf:∀ j k p,f j=some k→ρ j=some p→ρ2 k=some p) {v c:Value} (h:Rp ρ O W v c):Rp ρ2 O W (renV f v) c:=by
 unfold renV
 split
 ·obtain ⟨ys,rfl,ha⟩:=rp_tuple.1 h
  exact rp_tuple.2 ⟨ys,rfl,at_map (g:=renU f) (fun _ _=>rp_renU hf) ha⟩
 ·exact rp_renU hf h
theorem renA0_cells (v:Value):(renA0 f v).cells=#[renA0 f v]:=by
 have hu:vUnk.cells=#[vUnk]:=rfl
 unfold renA0
 split
 ·split
  ·rfl
  ·exact hu
 ·split
  ·rfl
  ·exact hu
 ·split
  ·rfl
  ·exact hu
 ·split
  ·next hc=>cases v <;> first | rfl | cases hc
  ·exact hu
theorem renA_cells (v:Value):(renA f v).cells=#[renA f v]:=by
 unfold renA renD
 split
 ·rfl
 ·rfl
 ·exact renA0_cells v
theorem cells_ok {v:Value} (h:∀ xs,v≠.agg xs):v.cells=#[v]:=by
 cases v <;> first | rfl | exact absurd rfl (h _)
theorem renU_cells (v:Value):(renU f v).cells=(v.cells.toList.map (renA f)).toArray:=by
 unfold renU
 split
 ·rfl
 ·next hn=>rw [renA_cells,cells_ok (fun xs e=>hn xs e)];rfl
theorem renB_ok (hf:∀ j k p,f j=some k→ρ j=some p→ρ2 k=some p) {b b' : Blk} (h:renB f b=some b') {g:Nat} (hB:BlkAt ρ O W g b):BlkAt ρ2 O W g b' ∧ b'.w=b.w∧b'.k=b.k:=by
 unfold renB at h
 split at h
 ·next ha =>
  cases h
  refine ⟨?_,rfl,rfl⟩
  obtain ⟨arr,ty,h1,h2,h3⟩:=(blk_cells (arr_noMap ha)).1 hB
  have hp:∀ r:PMap,b.pm r=nowhere:=fun r=>by unfold Blk.pm;rw [ha]
  rw [hp] at h3
  exact (blk_cells (arr_noMap ha)).2 ⟨arr,ty,h1,h2,by rw [hp];exact h3⟩
 ·next ha =>
  split at h
  ·next hok =>
   cases hm:b.isMap
   ·rw [hm] at h
    cases h
    refine ⟨?_,rfl,rfl⟩
    obtain ⟨arr,ty,h1,h2,h3⟩:=(blk_cells hm).1 hB
    have hp:∀ (r:PMap) els,({ b with els:=els }:Blk).pm r=r:=fun r els=>by show b.pm r=r;unfold Blk.pm;rw [ha]
    have hp' : ∀ r:PMap,b.pm r=r:=fun r=>by unfold Blk.pm;rw [ha]
    refine (blk_cells (b:={ b with els:=b.els.map (renU f) }) hm).2 ⟨arr,ty,h1,by simpa using h2,fun n el hel=>?_⟩
    simp only [List.getElem?_map] at hel
    obtain ⟨el0,he,rfl⟩:=Option.map_eq_some_iff.1 hel
    obtain ⟨h4,h5⟩:=h3 n el0 he
    rw [renU_cells]
    refine ⟨by simpa using h4,fun j x hx=>?_⟩
    simp only [List.getElem?_toArray,List.getElem?_map,Array.getElem?_toList] at hx
    obtain ⟨x0,hx0,rfl⟩:=Option.map_eq_some_iff.1 hx
    obtain ⟨u,hu,hr⟩:=h5 j x0 hx0
    rw [hp'] at hr
    rw [hp]
    exact ⟨u,hu,rp_renA hf hr⟩
   ·rw [hm] at h
    cases h
    refine ⟨?_,rfl,rfl⟩
    obtain ⟨l,h1,h2,h3⟩:=(blk_map hm).1 hB
    refine (blk_map (b:={ b with els:=b.els.map (renM f) }) hm).2 ⟨l,h1,fun d hd=>?_,fun el hel=>?_⟩
    ·obtain ⟨v,hv⟩:=h2 d hd
     exact ⟨renU f v,List.mem_map.2 ⟨_,hv,rfl⟩⟩
    ·obtain ⟨el0,he,rfl⟩:=List.mem_map.1 hel
     obtain ⟨i,v,c,rfl,h4,h5⟩:=h3 el0 he
     exact ⟨i,renU f v,c,rfl,h4,rp_renU hf h5⟩
  ·cases h
end
theorem posN_spec {j:Nat}:∀ {l:List Nat} {b k:Nat},posN j l b=some k→b≤k∧l[k - b]? = some j
 | [],b,k,h=>by cases h
 | i::r,b,k,h=>by
  simp only [posN] at h
  split at h
  ·next e =>
   cases h
   exact ⟨Nat.le_refl _,by simpa using e⟩
  ·obtain ⟨h1,h2⟩:=posN_spec h
   refine ⟨by omega,?_⟩
   rw [show k - b=(k - (b+1))+1 by omega]
   simpa using h2
theorem nodN_inj:∀ {l:List Nat} {i j x:Nat},nodN l=true→l[i]? = some x→l[j]? = some x→i=j
 | [],i,j,x,_,h,_=>by simp at h
 | a::r,i,j,x,h,h1,h2=>by
  simp only [nodN,Bool.and_eq_true] at h
  have hne:∀ k y,r[k]? = some y→y≠a:=fun k y hk=>by
   have:=List.all_eq_true.1 h.1 y (List.mem_of_getElem? hk)
   simpa using this
  cases i with
  | zero =>
   cases j with
   | zero=>rfl
   | succ j=>simp at h1 h2;exact absurd h1.symm (hne j x h2)
  | succ i =>
   cases j with
   | zero=>simp at h1 h2;exact absurd h2.symm (hne i x h1)
   | succ j=>simp at h1 h2;rw [nodN_inj h.2 h1 h2]
theorem canonH_spec {f:Nat→Option Nat} {H:List (Option Blk)}:∀ {im:List Nat} {H' : List (Option Blk)},canonH f H im=some H' → H'.length=im.length∧∀ (k i:Nat),im[k]? = some i→∃ b b',look H i=some b∧b.w=true∧renB f b=some b' ∧ look H' k=some b'
 | [],H',h=>by simp only [canonH,Option.some.injEq] at h;subst h;exact ⟨rfl,fun k i hk=>by simp at hk⟩
 | i::r,H',h=>by
  simp only [canonH] at h
  split at h
  ·next b hb =>
   split at h
   ·next hw =>
    split at h
    ·next b' s h1 h2 =>
     cases h
     obtain ⟨h3,h4⟩:=canonH_spec h2
     refine ⟨by simp [h3],fun k j hk=>?_⟩
     cases k with
     | zero=>simp at hk;subst hk;exact ⟨b,b',hb,hw,h1,rfl⟩
     | succ k=>exact h4 k j (by simpa using hk)
    ·cases h
   ·cases h
  ·cases h
structure ExtL (ρ:PMap) (O:Nat→Prop) (H:List (Option Blk)) (W:World) (ρ' : PMap) (O' : Nat→Prop) (H' : List (Option Blk)) (W' : World):Prop where
 old:∀ g,g<W.heap.size→∀ i b k,look H' i=some b→ρ' i=some (g,k)→∃ i0 b0 k0,look H i0=some b0∧(b.w=true→b0.w=true)∧ρ i0=some (g,k0)
 still:Still O W O' W'
 keepO:∀ g,O g→(∀ i b,look H i=some b→∀ k,ρ i≠some (g,k))→O' g
 str:W'.tape=W.tape∧W'.os=W.os∧W'.output=W.output
 blk:∀ g,g<W.heap.size→(∀ i b,look H i=some b→b.w=true→∀ k,ρ i≠some (g,k))→W'.heap[g]? = W.heap[g]?
section
variable {ρ ρ' ρ'' : PMap} {O O' O'' : Nat→Prop} {H H' H'' : List (Option Blk)} {W W' W'' : World}
theorem Ext.toL (h:Ext ρ O H W ρ' O' H' W') (hc:HConc ρ O H W):ExtL ρ O H W ρ' O' H' W' := by
 refine ⟨fun g hg i b k hi hk=>?_,h.still,h.keepO,h.str,h.blk⟩
 rcases h.live i b hi with ⟨b0,h1,h2⟩ | h1
 ·rcases h.new i _ hk with h3 | ⟨h3,-⟩
  ·exact ⟨i,b0,k,h1,h2,h3⟩
  ·have:=look_lt h1;omega
 ·rcases h.new i _ hk with h3 | ⟨-,h3 | ⟨j,bj,kj,h3,h4,h5⟩⟩
  ·rw [hc.fr i h1] at h3;cases h3
  ·simp at h3;omega
  ·exact ⟨j,bj,kj,h3,fun _=>h4,h5⟩
theorem ExtL.trans (h:ExtL ρ O H W ρ' O' H' W') (k:ExtL ρ' O' H' W' ρ'' O'' H'' W'') (hl:Low O W):ExtL ρ O H W ρ'' O'' H'' W'' := by
 refine ⟨fun g hg i b n hi hn=>?_,h.still.trans k.still,fun g hg hno=>?_,⟨k.str.1.trans h.str.1,k.str.2.1.trans h.str.2.1,k.str.2.2.trans h.str.2.2⟩,fun g hg hno=>?_⟩
 ·obtain ⟨i1,b1,k1,h1,h2,h3⟩:=k.old g (Nat.lt_of_lt_of_le hg h.still.size) i b n hi hn
  obtain ⟨i0,b0,k0,h4,h5,h6⟩:=h.old g hg i1 b1 k1 h1 h3
  exact ⟨i0,b0,k0,h4,fun w=>h5 (h2 w),h6⟩
 ·refine k.keepO g (h.keepO g hg hno) fun i b hi m hm=>?_
  obtain ⟨i0,b0,k0,h1,-,h2⟩:=h.old g (hl g hg) i b m hi hm
  exact hno i0 b0 h1 k0 h2
 ·refine (k.blk g (Nat.lt_of_lt_of_le hg h.still.size) fun i b hi hw m hm=>?_).trans (h.blk g hg hno)
  obtain ⟨i0,b0,k0,h1,h2,h3⟩:=h.old g hg i b m hi hm
  exact hno i0 b0 h1 (h2 hw) k0 h3
def canR (ρ:PMap) (im:List Nat):PMap:=fun k=>(im[k]?).bind ρ
theorem canon_ok {im keep:List Nat} {s s0:Sg} {a:Act} (h:canon im keep s=some s0) (hH:HConc ρ O s.H W) (hT:TConc ρ O s.T a W) :
  HConc (canR ρ im) O s0.H W∧TConc (canR ρ im) O s0.T a W∧ExtL ρ O s.H W (canR ρ im) O s0.H W∧(∀ k b,look s0.H k=some b→b.w=true)∧(∀ (k i:Nat),im[k]? = some i→∃ b,look s.H i=some b∧b.w=true)∧s0.H.length=im.length:=by
 unfold canon at h
 split at h
 ·next hn =>
  obtain ⟨H0,hH0,rfl⟩:=Option.map_eq_some_iff.1 h
  obtain ⟨hlen,hsp⟩:=canonH_spec hH0
  have hf:∀ j k p,posN j im 0=some k→ρ j=some p→canR ρ im k=some p:=fun j k p hj hp=>by
   obtain ⟨-,h2⟩:=posN_spec hj
   simp only [canR,Nat.sub_zero] at h2 ⊢
   rw [h2];exact hp
  have hlk:∀ k b',look H0 k=some b' → ∃ i b,im[k]? = some i∧look s.H i=some b∧b.w=true∧renB (fun j=>posN j im 0) b=some b' := fun k b' hk=>by
   have hkl:k<im.length:=by rw [← hlen];exact look_lt hk
   obtain ⟨b,b2,h1,h2,h3,h4⟩:=hsp k im[k] (List.getElem?_eq_getElem hkl)
   rw [h4] at hk;cases hk
   exact ⟨im[k],b,List.getElem?_eq_getElem hkl,h1,h2,h3⟩
  refine ⟨⟨hH.low,fun k hk=>?_,fun k=>?_,fun i j b b' g k k' hi hj hgi hgj=>?_⟩,⟨hT.df,by simpa using hT.sz,fun t v hv=>?_⟩,⟨fun g hg k b n hk hn=>?_,Still.refl _ _,fun _ h _=>h,⟨rfl,rfl,rfl⟩,fun _ _ _=>rfl⟩,fun k b hk=>?_,fun k i hk=>?_,hlen⟩
  ·simp only [canR]
   rw [List.getElem?_eq_none (by rw [← hlen];exact hk)];rfl
  ·cases hk:look H0 k with
   | none=>trivial
   | some b' =>
    obtain ⟨i,b,h1,h2,h3,h4⟩:=hlk k b' hk
    have h5:=hH.hp i
    rw [h2] at h5
    obtain ⟨g,hg,hO,hB⟩:=h5
    obtain ⟨h6,h7,h8⟩:=renB_ok hf h4 hB
    exact ⟨g,by simp only [canR,h1];rw [h8];exact hg,hO,h6⟩
  ·obtain ⟨i',b0,h1,h2,-⟩:=hlk i b hi
   obtain ⟨j',b1,h3,h4,-⟩:=hlk j b' hj
   simp only [canR,h1,h3,Option.bind_some] at hgi hgj
   have:=hH.inj i' j' b0 b1 g k k' h2 h4 hgi hgj
   subst this
   exact nodN_inj hn h1 h3
  ·simp only [List.getElem?_map,List.getElem?_zipIdx] at hv
   obtain ⟨x,hx,rfl⟩:=Option.map_eq_some_iff.1 hv
   obtain ⟨u,hu,rfl⟩:=Option.map_eq_some_iff.1 hx
   obtain ⟨c,hc,hr⟩:=hT.tm t u hu
   refine ⟨c,hc,?_⟩
   dsimp only
   split
   ·exact rp_renV hf hr
   ·exact rp_unk _
  ·obtain ⟨i,b0,h1,h2,h3,-⟩:=hlk k b hk
   simp only [canR,h1,Option.bind_some] at hn
   exact ⟨i,b0,n,h2,fun _=>h3,hn⟩
  ·obtain ⟨i,b0,h1,h2,h3,h4⟩:=hlk k b hk
   unfold renB at h4
   split at h4
   ·cases h4;exact h3
   ·split at h4
    ·cases h4;exact h3
    ·cases h4
  ·obtain ⟨b,-,h1,h2,-⟩:=hsp k i hk
   exact ⟨b,h1,h2⟩
 ·cases h
end
def LoopN (P:Program) (c:Code) (n:Nat) (s:Sg) (x:Exit) (s' : Sg):Prop :=
 ∀ (ρ:PMap) (O:Nat→Prop) (a:Act) (W:World) (Q:Exit→Act→World→Prop),HConc ρ O s.H W→TConc ρ O s.T a W →
  (∀ ρ' O' a' W',HConc ρ' O' s'.H W' → TConc ρ' O' s'.T a' W' → ExtL ρ O s.H W ρ' O' s'.H W' → Q x a' W')→Code.rounds P c Q n a W
def LoopP (P:Program) (c:Code) (s:Sg) (x:Exit) (s' : Sg):Prop:=∃ n,LoopN P c n s x s'
def jumpsN (P:Program) (c:Code) (l:Nat) (Q:Exit→Act→World→Prop):Nat→Act→World→Prop
 | 0,_,_=>False
 | n+1,a,w=>c.wp P (Exit.jump l (jumpsN P c l Q n) Q) a w
def GotoN (P:Program) (l:Nat) (c:Code) (n:Nat) (s:Sg) (x:Exit) (s' : Sg):Prop :=
 ∀ (ρ:PMap) (O:Nat→Prop) (a:Act) (W:World) (Q:Exit→Act→World→Prop),HConc ρ O s.H W→TConc ρ O s.T a W →
  (∀ ρ' O' a' W',HConc ρ' O' s'.H W' → TConc ρ' O' s'.T a' W' → ExtL ρ O s.H W ρ' O' s'.H W' → Q x a' W')→jumpsN P c l Q n a W
def GotoP (P:Program) (l:Nat) (c:Code) (s:Sg) (x:Exit) (s' : Sg):Prop:=∃ n,GotoN P l c n s x s'
def lbl:Code→Option (Nat×Code)
 | .seq a b=>match a with
  | .label l=>some (l,b)
  | a=>match lbl b with
   | some (l,r)=>match findLabel a l with
    | none=>some (l,r)
    | some _=>none
   | none=>none
 | _=>none
theorem lbl_find:∀ (c:Code) {l:Nat} {r:Code},lbl c=some (l,r)→findLabel c l=some (.seq .skip r)
 | .seq a b,l,r,h=>by
  unfold lbl at h
  split at h
  ·next l' => cases h;simp [findLabel]
  ·split at h
   ·next l' r' hb =>
    split at h
    ·next hf=>cases h;rw [findLabel,hf];exact lbl_find b hb
    ·cases h
   ·cases h
 | .skip,_,_,h | .region ..,_,_,h | .cond ..,_,_,h | .block ..,_,_,h | .loop ..,_,_,h | .rangeFunc ..,_,_,h | .exit _,_,_,h | .scope _,_,_,h | .label _,_,_,h | .goto _,_,_,h | .ret,_,_,h | .refuse _,_,_,h=>by simp [lbl] at h
theorem wp_scope_jumpsN {P:Program} {a:Act} {w:World} {Q:Exit→Act→World→Prop} {c r:Code} {l:Nat} (hf:findLabel c l=some (.seq .skip r)) (first:c.wp P (Exit.jump l (fun a w=>∃ n,jumpsN P r l Q n a w) Q) a w):(Code.scope c).wp P Q a w:=by
 intro b k cs
 have hg:gotoIn l (.inScope c::k)=some (.code (.seq .skip r) :: .inScope c::k):=by simp [gotoIn,hf]
 have key:∀ n a w,jumpsN P r l Q n a w→∃ e a' w',Q e a' w' ∧ Arrives P (lone (b.at a (.code (.seq .skip r) :: .inScope c::k)) cs w) b k cs e a' w' := by
  intro n
  induction n with
  | zero=>intro a w h;exact h.elim
  | succ n ih =>
   intro a w h
   obtain ⟨e,a₁,w₁,hq,harr⟩:=(wp_seq (x:=.skip) (wp_skip h):(Code.seq .skip r).wp P _ a w) b (.inScope c::k) cs
   cases e with
   | normal=>exact ⟨.normal,a₁,w₁,hq,Steps.trans harr (.one step_inScope)⟩
   | exit id=>exact ⟨.exit id,a₁,w₁,hq,fun k' hk=>harr k' (by simp [exitTo,hk])⟩
   | goto l' =>
    obtain ⟨rfl,hJ'⟩:=hq
    obtain ⟨e₂,a₂,w₂,hq₂,harr₂⟩:=ih a₁ w₁ hJ'
    exact ⟨e₂,a₂,w₂,hq₂,.of_steps (harr _ hg) harr₂⟩
   | ret=>exact ⟨_,a₁,w₁,hq,harr⟩
   | panic ch=>exact ⟨_,a₁,w₁,hq,harr⟩
   | outgrown=>exact ⟨_,a₁,w₁,hq,harr⟩
 obtain ⟨e,a₁,w₁,hq,harr⟩:=first b (.inScope c::k) cs
 cases e with
 | normal=>exact ⟨.normal,a₁,w₁,hq,.head step_scope (Steps.trans harr (.one step_inScope))⟩
 | exit id=>exact ⟨.exit id,a₁,w₁,hq,fun k' hk=>.head step_scope (harr k' (by simp [exitTo,hk]))⟩
 | goto l' =>
  obtain ⟨rfl,n,hJ'⟩:=hq
  obtain ⟨e₂,a₂,w₂,hq₂,harr₂⟩:=key n a₁ w₁ hJ'
  exact ⟨e₂,a₂,w₂,hq₂,.of_steps (.head step_scope (harr _ hg)) harr₂⟩
 | ret=>exact ⟨_,a₁,w₁,hq,.of_steps (.one step_scope) harr⟩
 | panic ch=>exact ⟨_,a₁,w₁,hq,.of_steps (.one step_scope) harr⟩
 | outgrown=>exact ⟨_,a₁,w₁,hq,.of_steps (.one step_scope) harr⟩
def RegM (P:Program) (c:Code) (N:Nat) (T0:List (Nat×Value)) (H0:List (Nat×Blk)) (D:List Nat) (dst:Nat) (els:List Value):Prop :=
 ∀ (ρ:PMap) (O:Nat→Prop) (a:Act) (W:World) (Q:Exit→Act→World→Prop),Low O W→a.defers=[]→a.tmps.size=N→(∀ p∈T0,∃ c,a.tmps[p.1]? = some c∧Rp ρ O W p.2 c)→(∀ p∈H0,HAt ρ O W p.1 (some p.2)) →
  (∀ a' W' g0,a'.defers=[]→a'.tmps.size=N→(∀ t,t∉D→a'.tmps[t]? = a.tmps[t]?)→a'.tmps[dst]? = some (.map (some g0))→W.heap.size≤g0→Kept W W' → MapBlk ρ (fun g=>O g∨g=g0) W' g0 els→Q .normal a' W')→c.wp P Q a W
def rgmT (D:List Nat) (dst:Nat) (T:List Value) (k:Nat):List Value:=(T.zipIdx.map fun x=>if D.any (fun d=>d==x.2) then vUnk else x.1).set dst (.map (some k))
def rgmP (ts:List Nat) (T:List Value):List (Nat×Value):=ts.filterMap fun t=>(T[t]?).map fun v=>(t,v)
def rgmH (hs:List Nat) (H:List (Option Blk)):List (Nat×Blk):=hs.filterMap fun i=>(look H i).map fun b=>(i,b)
theorem regM_ok {P:Program} {c:Code} {s:Sg} {ts hs D:List Nat} {dst:Nat} {els:List Value} (h:RegM P c s.T.length (rgmP ts s.T) (rgmH hs s.H) D dst els) (hd:D.any (fun d=>d==dst)=true) {ρ:PMap} {O:Nat→Prop} {a:Act} {W:World} {Q:Exit→Act→World→Prop} (hH:HConc ρ O s.H W) (hT:TConc ρ O s.T a W)
  (hK:∀ ρ' O' a' W',HConc ρ' O' (s.H++[some ⟨true,false,0,0,els⟩]) W' → TConc ρ' O' (rgmT D dst s.T s.H.length) a' W' → Ext ρ O s.H W ρ' O' (s.H++[some ⟨true,false,0,0,els⟩]) W' → Q .normal a' W'):c.wp P Q a W:=by
 refine h ρ O a W Q hH.low hT.df hT.sz (fun p hp=>?_) (fun p hp=>?_) fun a' W' g0 h1 h2 h3 h4 h5 h6 h7=>?_
 ·obtain ⟨t,-,ht⟩:=List.mem_filterMap.1 hp
  obtain ⟨v,hv,rfl⟩:=Option.map_eq_some_iff.1 ht
  exact hT.tm t v hv
 ·obtain ⟨i,-,hi⟩:=List.mem_filterMap.1 hp
  obtain ⟨b,hb,rfl⟩:=Option.map_eq_some_iff.1 hi
  have:=hH.hp i
  rw [hb] at this
  exact this
 ·have hnone:=hH.fr s.H.length (Nat.le_refl _)
  have hsub:Sub ρ (fun i=>if i=s.H.length then some (g0,0) else ρ i):=fun i p hi=>by
   by_cases e:i=s.H.length
   ·subst e;rw [hnone] at hi;cases hi
   ·simpa [e] using hi
  have hlt:g0<W'.heap.size:=by obtain ⟨l,h8,-⟩:=h7;exact h8.1.lt
  have hst:Still O W (fun g=>O g∨g=g0) W' := ⟨h6.size,fun g hg hO=>⟨fun h=>h.elim hO (fun e=>by omega),h6.block g hg⟩,Shp.of_same h6.block⟩
  have hstep:Step ρ O W (fun i=>if i=s.H.length then some (g0,0) else ρ i) (fun g=>O g∨g=g0) W' [s.H.length] [] s.H.length (s.H.length+1) :=
   ⟨hsub,fun i p hi=>by
    by_cases e:i=s.H.length
    ·subst e;simp at hi;subst hi;exact .inr ⟨Nat.le_refl _,by omega,.inl h5⟩
    ·simp [e] at hi;exact .inl hi,hst,fun g hg=>hg.elim (fun hg=>Nat.lt_of_lt_of_le (hH.low g hg) h6.size) (fun e=>e ▸ hlt),fun _ hg _=>.inl hg,⟨h6.tape,h6.os,h6.output⟩,fun g hg _=>h6.block g hg⟩
  have hwr:wrOk s.H [(s.H.length,some ⟨true,false,0,0,els⟩)] (s.H.length+1)=true:=by
   have hl:look s.H s.H.length=none:=by
    cases hl:look s.H s.H.length with
    | none=>rfl
    | some b=>have:=look_lt hl;omega
   simp [wrOk,noDup,hl,Nat.ble_eq,Nat.blt_eq]
  have happ:applyW s.H [(s.H.length,some ⟨true,false,0,0,els⟩)] (s.H.length+1)=s.H++[some ⟨true,false,0,0,els⟩]:=by
   unfold applyW setAll setAll
   simp
  have hhat:HAt (fun i=>if i=s.H.length then some (g0,0) else ρ i) (fun g=>O g∨g=g0) W' s.H.length (some ⟨true,false,0,0,els⟩):=by
   refine ⟨g0,by simp,.inr rfl,(blk_map rfl).2 ?_⟩
   obtain ⟨l,h8,h9,h10⟩:=h7
   exact ⟨l,h8,h9,fun el hel=>let ⟨i,v,c,h11,h12,h13⟩:=h10 el hel;⟨i,v,c,h11,h12,h13.mono (Still.refl _ _) hsub⟩⟩
  have:=step_conc hH hwr hstep (fun p hp=>by simp only [List.mem_singleton] at hp;subst hp;exact hhat)
  rw [happ] at this
  refine hK _ _ a' W' this.1 ⟨h1,by rw [h2];simp [rgmT],fun t v hv=>?_⟩ this.2
  simp only [rgmT,List.getElem?_set] at hv
  by_cases e:dst=t
  ·subst e
   simp only [if_true] at hv
   split at hv
   ·cases hv;exact ⟨_,h4,rp_map.2 ⟨g0,by simp,rfl⟩⟩
   ·cases hv
  ·simp only [e,if_false,List.getElem?_map,List.getElem?_zipIdx] at hv
   obtain ⟨x,hx,rfl⟩:=Option.map_eq_some_iff.1 hv
   obtain ⟨u,hu,rfl⟩:=Option.map_eq_some_iff.1 hx
   obtain ⟨c,hc,hr⟩:=hT.tm t u hu
   dsimp only
   split
   ·next hany =>
    have htl:t<a'.tmps.size:=by rw [h2];exact (List.getElem?_eq_some_iff.1 hu).1
    exact ⟨a'.tmps[t],by simp [htl],rp_unk _⟩
   ·next hany =>
    refine ⟨c,?_,hr.mono hst hsub⟩
    rw [h3 t fun hm=>hany (List.any_eq_true.2 ⟨t,hm,by simp⟩)]
    exact hc
def mkT (n:Nat) (l:List (Nat×Value)):List Value:=l.foldl (fun T x=>T.set x.1 x.2) (List.replicate n vUnk)
def shN (nx:Nat) (H' : List (Option Blk)) (k:Nat):Option Nat:=(look H' k).map fun _=>nx+k
def killN (im:List Nat) (H:List (Option Blk)):List (Option Blk):=H.zipIdx.map fun x=>if im.any (fun i=>i==x.2) then none else x.1
def joinS (s:Sg) (im:List Nat) (s' : Sg):Sg :=
 ⟨s'.T.map (renV (shN s.H.length s'.H)),killN im s.H++s'.H.map fun x=>x.bind (renB (shN s.H.length s'.H))⟩
theorem look_killN {im:List Nat} {H:List (Option Blk)} (i:Nat):look (killN im H) i=if im.any (fun j=>j==i) then none else look H i:=by
 unfold look killN
 simp only [List.getElem?_map,List.getElem?_zipIdx,Nat.zero_add]
 cases h:H[i]? with
 | none=>simp
 | some x=>simp
theorem look_app {A B:List (Option Blk)} (i:Nat):look (A++B) i=if i<A.length then look A i else look B (i - A.length):=by
 unfold look
 rw [List.getElem?_append]
 by_cases h:i<A.length
 ·simp only [h,if_true]
 ·simp only [h,if_false]
theorem look_map {f:Blk→Option Blk} {B:List (Option Blk)} (i:Nat):look (B.map fun x=>x.bind f) i=(look B i).bind f:=by
 unfold look
 simp only [List.getElem?_map]
 cases h:B[i]? with
 | none=>rfl
 | some x=>rfl
theorem join_ok {ρ:PMap} {O:Nat→Prop} {W:World} {s s0 s' : Sg} {im keep:List Nat} (h:canon im keep s=some s0) (hH:HConc ρ O s.H W) {a0:Act} (hT:TConc ρ O s.T a0 W) {ρ' : PMap} {O' : Nat→Prop} {a:Act} {W' : World} (hH' : HConc ρ' O' s'.H W') (hT' : TConc ρ' O' s'.T a W') (hE:ExtL (canR ρ im) O s0.H W ρ' O' s'.H W') :
  ∃ ρ'',HConc ρ'' O' (joinS s im s').H W' ∧ TConc ρ'' O' (joinS s im s').T a W' ∧ Ext ρ O s.H W ρ'' O' (joinS s im s').H W' ∧ ∀ k p,ρ'' (s.H.length+k)=some p→ρ' k=some p:=by
 obtain ⟨hc1,hc2,hc3,hw,him,hl0⟩:=canon_ok h hH hT
 let nx:=s.H.length
 let ρ'' : PMap:=fun i=>if i<nx then ρ i else if (look s'.H (i - nx)).isSome then ρ' (i - nx) else none
 have hkl:(killN im s.H).length=nx:=by simp [killN,nx]
 have hf:∀ j k p,shN nx s'.H j=some k→ρ' j=some p→ρ'' k=some p:=fun j k p hj hp=>by
  simp only [shN] at hj
  obtain ⟨b,hb,rfl⟩:=Option.map_eq_some_iff.1 hj
  have:ρ'' (nx+j)=ρ' j:=by
   have hn:¬ (nx+j<nx):=by omega
   simp only [ρ'',hn,if_false,Nat.add_sub_cancel_left,hb];rfl
  rw [this];exact hp
 have hsub:Sub ρ ρ'' := fun i p hp=>by
  have:i<nx:=Nat.lt_of_not_le fun hle=>by rw [hH.fr i hle] at hp;cases hp
  simp only [ρ'',this,if_true];exact hp
 -- blocks that are known still: none of those that the loop wrote
 have hlk:∀ i b,look (joinS s im s').H i=some b→(i<nx∧im.any (fun j=>j==i)=false∧look s.H i=some b)∨(nx≤i∧∃ b0,look s'.H (i - nx)=some b0∧renB (shN nx s'.H) b0=some b):=fun i b hi=>by
  simp only [joinS,look_app,hkl] at hi
  split at hi
  ·next hlt =>
   rw [look_killN] at hi
   split at hi
   ·cases hi
   ·next hno=>exact .inl ⟨hlt,by rw [Bool.not_eq_true] at hno;exact hno,hi⟩
  ·next hge =>
   rw [look_map] at hi
   obtain ⟨b0,h1,h2⟩:=Option.bind_eq_some_iff.1 hi
   exact .inr ⟨by omega,b0,h1,h2⟩
 have him' : ∀ k i0,(canR ρ im) k=some i0→∃ i,im[k]? = some i∧ρ i=some i0:=fun k i0 hk=>Option.bind_eq_some_iff.1 hk
 have hno0:∀ i b g k,look s.H i=some b→ρ i=some (g,k)→im.any (fun j=>j==i)=false→∀ i' b',look s0.H i' = some b' → ∀ k',canR ρ im i' ≠ some (g,k'):=fun i b g k hi hg hno i' b' hi' k' hk' => by
  obtain ⟨m,hm,hgm⟩:=him' i' _ hk'
  obtain ⟨bm,hbm,-⟩:=him i' m hm
  have:=hH.inj i m b bm g k k' hi hbm hg hgm
  subst this
  have h2:im.any (fun j=>j==i)=true:=List.any_eq_true.2 ⟨i,List.mem_of_getElem? hm,by simp⟩
  rw [hno] at h2;cases h2
 have hblk:∀ g,g<W.heap.size→∀ i b k,look s'.H i=some b→ρ' i=some (g,k)→∃ j bj kj,im.any (fun y=>y==j)=true∧look s.H j=some bj∧bj.w=true∧ρ j=some (g,kj):=fun g hg i b k hi hk=>by
  obtain ⟨i0,b0,k0,h1,-,h2⟩:=hE.old g hg i b k hi hk
  obtain ⟨m,hm,hgm⟩:=him' i0 _ h2
  obtain ⟨bm,hbm,hbw⟩:=him i0 m hm
  exact ⟨m,bm,k0,List.any_eq_true.2 ⟨m,List.mem_of_getElem? hm,by simp⟩,hbm,hbw,hgm⟩
 refine ⟨ρ'',⟨hH'.low,fun i hi=>?_,fun i=>?_,fun i j b b' g k k' hi hj hgi hgj=>?_⟩,⟨hT'.df,by simpa [joinS] using hT'.sz,fun t v hv=>?_⟩,⟨hsub,fun i p hp=>?_,hE.still,fun g hg hno=>?_,fun i b hi=>?_,hE.str,fun g hg hno=>?_,fun i b hi hbw=>?_,?_⟩,fun k p hp=>?_⟩
 ·simp only [joinS,List.length_append,hkl,List.length_map] at hi
  simp only [ρ'']
  rw [if_neg (by omega)]
  split
  ·exact hH'.fr _ (by omega)
  ·rfl
 ·cases hi:look (joinS s im s').H i with
  | none=>trivial
  | some b =>
   rcases hlk i b hi with ⟨h1,h2,h3⟩ | ⟨h1,b0,h3,h4⟩
   ·have h5:=hH.hp i
    rw [h3] at h5
    obtain ⟨g,hg,hO,hB⟩:=h5
    have hn:=hno0 i b g b.k h3 hg h2
    refine ⟨g,hsub _ _ hg,hE.keepO g hO hn,hB.mono hE.still hsub (hE.blk g hB.lt fun i' b' hi' _=>hn i' b' hi')⟩
   ·have h5:=hH'.hp (i - nx)
    rw [h3] at h5
    obtain ⟨g,hg,hO,hB⟩:=h5
    obtain ⟨h6,h7,h8⟩:=renB_ok hf h4 hB
    refine ⟨g,?_,hO,h6⟩
    simp only [ρ'']
    rw [if_neg (by omega),h3,h8]
    exact hg
 ·have cls:∀ i b g k,look (joinS s im s').H i=some b→ρ'' i=some (g,k)→(i<nx∧im.any (fun j=>j==i)=false∧look s.H i=some b∧ρ i=some (g,k))∨(nx≤i∧∃ b0,look s'.H (i - nx)=some b0∧ρ' (i - nx)=some (g,k)):=fun i b g k hi hg=>by
   rcases hlk i b hi with ⟨h1,h2,h3⟩ | ⟨h1,b0,h3,-⟩
   ·simp only [ρ'',h1,if_true] at hg
    exact .inl ⟨h1,h2,h3,hg⟩
   ·simp only [ρ''] at hg
    rw [if_neg (by omega),h3] at hg
    exact .inr ⟨h1,b0,h3,hg⟩
  have apart:∀ i b g k j b' k',(i<nx∧im.any (fun j=>j==i)=false∧look s.H i=some b∧ρ i=some (g,k))→look s'.H j=some b' → ρ' j=some (g,k')→False:=fun i b g k j b' k' ⟨_,h2,h3,h4⟩ h5 h6=>by
   have h7:=hH.hp i
   rw [h3] at h7
   obtain ⟨g',hg',-,hB⟩:=h7
   rw [h4] at hg';cases hg'
   obtain ⟨m,bm,km,h8,h9,-,h10⟩:=hblk g hB.lt j b' k' h5 h6
   have:=hH.inj i m b bm g _ km h3 h9 h4 h10
   subst this
   rw [h2] at h8;cases h8
  rcases cls i b g k hi hgi with h1 | ⟨h1,b0,h2,h3⟩ <;> rcases cls j b' g k' hj hgj with h4 | ⟨h4,b1,h5,h6⟩
  ·exact hH.inj i j b b' g k k' h1.2.2.1 h4.2.2.1 h1.2.2.2 h4.2.2.2
  ·exact (apart i b g k _ b1 k' h1 h5 h6).elim
  ·exact (apart j b' g k' _ b0 k h4 h2 h3).elim
  ·have:=hH'.inj _ _ b0 b1 g k k' h2 h5 h3 h6
   omega
 ·simp only [joinS,List.getElem?_map] at hv
  obtain ⟨u,hu,rfl⟩:=Option.map_eq_some_iff.1 hv
  obtain ⟨c,hc,hr⟩:=hT'.tm t u hu
  exact ⟨c,hc,rp_renV hf hr⟩
 ·simp only [ρ''] at hp
  split at hp
  ·exact .inl hp
  ·split at hp
   ·next hlt hs =>
    obtain ⟨b,hb⟩:=Option.isSome_iff_exists.1 hs
    refine .inr ⟨by omega,?_⟩
    by_cases hg:p.1<W.heap.size
    ·obtain ⟨m,bm,km,-,h9,h10,h11⟩:=hblk p.1 hg _ b p.2 hb hp
     exact .inr ⟨m,bm,km,h9,h10,h11⟩
    ·exact .inl (by omega)
   ·cases hp
 ·refine hE.keepO g hg fun i b hi k hk=>?_
  obtain ⟨m,hm,hgm⟩:=him' i _ hk
  obtain ⟨bm,hbm,-⟩:=him i m hm
  exact hno m bm hbm k hgm
 ·rcases hlk i b hi with ⟨-,-,h3⟩ | ⟨h1,-⟩
  ·exact .inl ⟨b,h3,fun h=>h⟩
  ·exact .inr h1
 ·refine hE.blk g hg fun i b hi hbw k hk=>?_
  obtain ⟨m,hm,hgm⟩:=him' i _ hk
  obtain ⟨bm,hbm,hbw'⟩:=him i m hm
  exact hno m bm hbm hbw' k hgm
 ·have hlt:=look_lt hi
  simp only [joinS,look_app,hkl]
  rw [if_pos hlt,look_killN]
  split
  ·next hany =>
   obtain ⟨j,hj,he⟩:=List.any_eq_true.1 hany
   obtain ⟨k,hk⟩:=List.mem_iff_getElem?.1 hj
   obtain ⟨bm,hbm,hbw'⟩:=him k j hk
   have:j=i:=by simpa using he
   subst this
   rw [hi] at hbm;cases hbm
   rw [hbw] at hbw';cases hbw'
  ·exact hi
 ·simp only [joinS,List.length_append,hkl];omega
 ·have hn:¬ (s.H.length+k<nx):=by show ¬ (s.H.length+k<s.H.length);omega
  simp only [ρ'',hn,if_false] at hp
  split at hp
  ·rwa [show s.H.length+k - nx=k by show s.H.length+k - s.H.length=k;omega] at hp
  ·cases hp
theorem renB_w {f:Nat→Option Nat} {b b' : Blk} (h:renB f b=some b'):b'.w=b.w:=by
 unfold renB at h
 split at h
 ·cases h;rfl
 ·split at h
  ·cases h;rfl
  ·cases h
def mvF (i j:Nat) (x:Nat):Option Nat:=match x==j with
 | true=>some i
 | false=>some x
def mvB (nx i j:Nat) (H:List (Option Blk)) (x:Option Blk×Nat):Option Blk:=match x.2==i with
 | true=>(look H j).bind (renB (mvF i j))
 | false=>match x.2==j with
  | true=>none
  | false=>match Nat.blt x.2 nx with
   | true=>x.1
   | false=>x.1.bind (renB (mvF i j))
def mvS (nx i j:Nat) (s:Sg):Sg:=⟨s.T.map (renV (mvF i j)),s.H.zipIdx.map (mvB nx i j s.H)⟩
theorem look_mv {nx i j:Nat} {H:List (Option Blk)} (x:Nat):look (H.zipIdx.map (mvB nx i j H)) x=if x<H.length then mvB nx i j H (look H x,x) else none:=by
 unfold look
 simp only [List.getElem?_map,List.getElem?_zipIdx,Nat.zero_add]
 by_cases hx:x<H.length
 ·rw [if_pos hx,List.getElem?_eq_getElem hx]
  simp only [Option.map_some]
 ·rw [if_neg hx,List.getElem?_eq_none (by omega)];rfl
theorem mv_cases {nx i j:Nat} {H:List (Option Blk)} {x:Nat} {b:Blk} (h:look (H.zipIdx.map (mvB nx i j H)) x=some b) :
  (x=i∧∃ b0,look H j=some b0∧renB (mvF i j) b0=some b)∨(x≠i∧x≠j∧∃ b0,look H x=some b0∧(b0=b∨renB (mvF i j) b0=some b)):=by
 rw [look_mv] at h
 split at h
 ·unfold mvB at h
  simp only at h
  split at h
  ·next e =>
   obtain ⟨b0,h1,h2⟩:=Option.bind_eq_some_iff.1 h
   exact .inl ⟨by simpa using e,b0,h1,h2⟩
  ·next e =>
   split at h
   ·cases h
   ·next e2 =>
    refine .inr ⟨by simpa using e,by simpa using e2,?_⟩
    split at h
    ·exact ⟨b,h,.inl rfl⟩
    ·obtain ⟨b0,h1,h2⟩:=Option.bind_eq_some_iff.1 h
     exact ⟨b0,h1,.inr h2⟩
 ·cases h
theorem mv_ok {ρ:PMap} {O:Nat→Prop} {W:World} {s:Sg} {a:Act} {nx i j:Nat} (hH:HConc ρ O s.H W) (hT:TConc ρ O s.T a W) (hρ:∀ p,ρ j=some p→ρ i=some p):HConc ρ O (mvS nx i j s).H W∧TConc ρ O (mvS nx i j s).T a W:=by
 have hf:∀ y k p,mvF i j y=some k→ρ y=some p→ρ k=some p:=fun y k p hy hp=>by
  unfold mvF at hy
  split at hy
  ·next e=>cases hy;have:y=j:=(by simpa using e);subst this;exact hρ p hp
  ·cases hy;exact hp
 refine ⟨⟨hH.low,fun x hx=>hH.fr x (by simpa [mvS] using hx),fun x=>?_,fun x y b b' g k k' hx hy hgx hgy=>?_⟩,⟨hT.df,by simpa [mvS] using hT.sz,fun t v hv=>?_⟩⟩
 ·cases hx:look (mvS nx i j s).H x with
  | none=>trivial
  | some b =>
   rcases mv_cases hx with ⟨rfl,b0,h1,h2⟩ | ⟨-,-,b0,h1,h2⟩
   ·have h5:=hH.hp j
    rw [h1] at h5
    obtain ⟨g,hg,hO,hB⟩:=h5
    obtain ⟨h6,h7,h8⟩:=renB_ok hf h2 hB
    exact ⟨g,by rw [h8];exact hρ _ hg,hO,h6⟩
   ·have h5:=hH.hp x
    rw [h1] at h5
    obtain ⟨g,hg,hO,hB⟩:=h5
    rcases h2 with rfl | h2
    ·exact ⟨g,hg,hO,hB⟩
    ·obtain ⟨h6,h7,h8⟩:=renB_ok hf h2 hB
     exact ⟨g,by rw [h8];exact hg,hO,h6⟩
 ·have cls:∀ x b g k,look (mvS nx i j s).H x=some b→ρ x=some (g,k)→∃ x0 b0 k0,look s.H x0=some b0∧ρ x0=some (g,k0)∧((x=i∧x0=j)∨(x≠i∧x≠j∧x0=x)):=fun x b g k hx hg=>by
   rcases mv_cases hx with ⟨rfl,b0,h1,-⟩ | ⟨h3,h4,b0,h1,-⟩
   ·have h5:=hH.hp j
    rw [h1] at h5
    obtain ⟨g',hg',-⟩:=h5
    have:=hρ _ hg'
    rw [hg] at this;cases this
    exact ⟨j,b0,_,h1,hg',.inl ⟨rfl,rfl⟩⟩
   ·exact ⟨x,b0,k,h1,hg,.inr ⟨h3,h4,rfl⟩⟩
  obtain ⟨x0,b0,k0,h1,h2,h3⟩:=cls x b g k hx hgx
  obtain ⟨y0,b1,k1,h4,h5,h6⟩:=cls y b' g k' hy hgy
  have:=hH.inj x0 y0 b0 b1 g k0 k1 h1 h4 h2 h5
  omega
 ·simp only [mvS,List.getElem?_map] at hv
  obtain ⟨u,hu,rfl⟩:=Option.map_eq_some_iff.1 hv
  obtain ⟨c,hc,hr⟩:=hT.tm t u hu
  exact ⟨c,hc,rp_renV hf hr⟩
theorem mv_ext {ρ ρ' : PMap} {O O' : Nat→Prop} {H0:List (Option Blk)} {W W' : World} {s:Sg} {i j:Nat} (hE:Ext ρ O H0 W ρ' O' s.H W') {b:Blk} (hi:look H0 i=some b) (hw:b.w=true) (hj:H0.length≤j):Ext ρ O H0 W ρ' O' (mvS H0.length i j s).H W' := by
 refine ⟨hE.sub,hE.new,hE.still,hE.keepO,fun x b' hx=>?_,hE.str,hE.blk,fun x b' hx hbw=>?_,by simpa [mvS] using hE.len⟩
 ·rcases mv_cases hx with ⟨rfl,-⟩ | ⟨-,-,b0,h1,h2⟩
  ·exact .inl ⟨b,hi,fun _=>hw⟩
  ·have e:b'.w=b0.w:=by rcases h2 with rfl | h2;rfl;exact renB_w h2
   rcases hE.live x b0 h1 with ⟨b1,h3,h4⟩ | h3
   ·exact .inl ⟨b1,h3,fun h=>h4 (e ▸ h)⟩
   ·exact .inr h3
 ·have h1:=hE.keep x b' hx hbw
  have hlt:=look_lt hx
  have hlt2:=look_lt h1
  have n1:(x==i)=false:=by
   cases e:x==i
   ·rfl
   ·have:x=i:=by simpa using e
    subst this;rw [hi] at hx;cases hx;rw [hw] at hbw;cases hbw
  have n2:(x==j)=false:=by
   cases e:x==j
   ·rfl
   ·have:x=j:=by simpa using e
    omega
  have n3:Nat.blt x H0.length=true:=by simp [Nat.blt_eq];exact hlt
  show look (s.H.zipIdx.map (mvB H0.length i j s.H)) x=some b'
  rw [look_mv,if_pos hlt2]
  unfold mvB
  simp only [n1,n2,n3,h1]
def mvs (nx:Nat) (im:List Nat):Nat→Sg→Sg
 | 0,s=>s
 | k+1,s=>match im[k]? with
  | some i=>mvS nx i (nx+k) (mvs nx im k s)
  | none=>mvs nx im k s
theorem mvs_ok {ρ ρ' : PMap} {O O' : Nat→Prop} {H0:List (Option Blk)} {W W' : World} {im:List Nat} {a:Act} (him:∀ (k i:Nat),im[k]? = some i→∃ b,look H0 i=some b∧b.w=true) {s:Sg} (hH:HConc ρ' O' s.H W') (hT:TConc ρ' O' s.T a W') (hE:Ext ρ O H0 W ρ' O' s.H W') :
  ∀ K,(∀ k i p,k<K→im[k]? = some i→ρ' (H0.length+k)=some p→ρ' i=some p)→HConc ρ' O' (mvs H0.length im K s).H W' ∧ TConc ρ' O' (mvs H0.length im K s).T a W' ∧ Ext ρ O H0 W ρ' O' (mvs H0.length im K s).H W'
 | 0,_=>⟨hH,hT,hE⟩
 | K+1,h=>by
  obtain ⟨h1,h2,h3⟩:=mvs_ok him hH hT hE K fun k i p hk=>h k i p (by omega)
  unfold mvs
  split
  ·next i hi =>
   obtain ⟨b,hb,hw⟩:=him K i hi
   obtain ⟨h4,h5⟩:=mv_ok (nx:=H0.length) h1 h2 (i:=i) (j:=H0.length+K) fun p hp=>h K i p (by omega) hi hp
   exact ⟨h4,h5,mv_ext h3 hb hw (by omega)⟩
  ·exact ⟨h1,h2,h3⟩
def LoopKN (P:Program) (K:Nat) (c:Code) (n:Nat) (s:Sg) (x:Exit) (s' : Sg):Prop :=
 ∀ (ρ:PMap) (O:Nat→Prop) (a:Act) (W:World) (Q:Exit→Act→World→Prop),HConc ρ O s.H W→TConc ρ O s.T a W →
  (∀ ρ' O' a' W',HConc ρ' O' s'.H W' → TConc ρ' O' s'.T a' W' → ExtL ρ O s.H W ρ' O' s'.H W' → (∀ k,k<K→ρ' k=ρ k)→Q x a' W')→Code.rounds P c Q n a W
def LoopK (P:Program) (K:Nat) (c:Code) (s:Sg) (x:Exit) (s' : Sg):Prop:=∃ n,LoopKN P K c n s x s'
theorem joinK_ok {ρ:PMap} {O:Nat→Prop} {W:World} {s s0 s' : Sg} {im keep:List Nat} {K:Nat} (h:canon im keep s=some s0) (hH:HConc ρ O s.H W) {a0:Act} (hT:TConc ρ O s.T a0 W) {ρ' : PMap} {O' : Nat→Prop} {a:Act} {W' : World} (hH' : HConc ρ' O' s'.H W') (hT' : TConc ρ' O' s'.T a W') (hE:ExtL (canR ρ im) O s0.H W ρ' O' s'.H W') (hK:∀ k,k<K→ρ' k=canR ρ im k) :
  ∃ ρ'',HConc ρ'' O' (mvs s.H.length im K (joinS s im s')).H W' ∧ TConc ρ'' O' (mvs s.H.length im K (joinS s im s')).T a W' ∧ Ext ρ O s.H W ρ'' O' (mvs s.H.length im K (joinS s im s')).H W' := by
 obtain ⟨-,-,-,-,him,-⟩:=canon_ok h hH hT
 obtain ⟨ρ'',h1,h2,h3,h4⟩:=join_ok h hH hT hH' hT' hE
 exact ⟨ρ'',mvs_ok him h1 h2 h3 K fun k i p hk hi hp=>h3.sub i p (by
  have:=hK k hk
  rw [h4 k p hp] at this
  unfold canR at this
  rw [hi] at this
  exact this.symm)⟩
end
end Go.Proofs.YtbckpadeamlidaaGreat
