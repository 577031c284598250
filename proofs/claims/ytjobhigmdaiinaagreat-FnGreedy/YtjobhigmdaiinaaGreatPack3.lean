import Derived.Test.YtjobhigmdaiinaaGreatPack0
import Derived.Test.YtjobhigmdaiinaaGreatPack1
import Derived.Laws.MakeOwn
namespace Go.Proofs.YtjobhigmdaiinaaGreat
open Go.RowKit
structure RT where
 v:Int
 a:Option Addr
 ids:List Int
 c:Nat
def rt0:RT:=⟨0,none,[],0⟩
instance:Inhabited RT:=⟨rt0⟩
def RT.key(r:RT):Int×List Int:=(r.v,r.ids)
def zm5(r:RT):List Value:=[.int .i64 r.v,.slice r.a r.ids.length r.c]
def zg9(R:List RT):List Value:=R.flatMap zm5
theorem z59(r:RT)(R:List RT):zg9 (r::R)=zm5 r++zg9 R:=by simp[zg9]
theorem zl1(R S:List RT):zg9 (R++S)=zg9 R++zg9 S:=by simp[zg9]
theorem ze7(R:List RT):(zg9 R).length=R.length*2:=by
 induction R with
 |nil=>rfl
 |cons r R ih=>rw[z59,List.length_append,ih];simp[zm5];omega
theorem z71:∀(R:List RT) (j:Nat),j<R.length->(zg9 R)[j*2]? =some (.int .i64 (R.getD j rt0).v)/\(zg9 R)[j*2+1]? =some (.slice (R.getD j rt0).a (R.getD j rt0).ids.length (R.getD j rt0).c)
 |[],j,h=>by simp at h
 |r::R,0,_=>by rw[z59];exact⟨rfl,rfl⟩
 |r::R,j+1,h=>by
  have ih:=z71 R j (by simpa using h);rw[z59];have e1:(j+1)*2=j*2+2:=by omega
  have e2:(j+1)*2+1=j*2+1+2:=by omega
  rw[e2,e1];simpa[zm5]using ih
def za6(w:World)(ra:Option Addr)(R:List RT):Prop:=∀j,j<R.length->∃b off,ra=some ⟨b,off,none⟩/\w.cell? ⟨b,off+j*2,none⟩=some (.int .i64 (R.getD j rt0).v)/\w.cell? ⟨b,off+j*2+1,none⟩=some (.slice (R.getD j rt0).a (R.getD j rt0).ids.length (R.getD j rt0).c)/\za0 w (R.getD j rt0).a (R.getD j rt0).ids
theorem za6.below{w w':World}{ra:Option Addr}{R:List RT}(h:za6 w ra R)(hb:Below w.heap.size w w'):za6 w' ra R:=fun j hj=>by
 obtain⟨b,off,e,h1,h2,h3⟩:=h j hj;exact⟨b,off,e,(hb.cell (p:=⟨b,off+j*2,none⟩) (block_lt_of_cell h1)).trans h1,(hb.cell (p:=⟨b,off+j*2+1,none⟩) (block_lt_of_cell h2)).trans h2,h3.below hb⟩
theorem zk4:(Tryz.prog.info? 43).map (fun i=>(i.zero,i.size,i.bytes))=some (some (.agg #[Value.int .i64 0,Value.slice none 0 0]),2,32):=by kernel_rfl
def zB9(r:RT)(s:List RT×Bool)(x:RT):List RT×Bool:=
 (s.1++(if s.2=false/\r.v<=x.v then [r]else [])++(if x.v=r.v then []else [x]),s.2||decide (r.v<=x.v))
def setTo(R:List RT)(r:RT)(k:Nat):List RT×Bool:=(R.take k).foldl (zB9 r) ([],false)
def setL(R:List RT)(r:RT):List RT:=if(setTo R r R.length).2 then(setTo R r R.length).1 else(setTo R r R.length).1++[r]
theorem zy3(R:List RT)(r:RT):setTo R r 0=([],false):=rfl
theorem z93{R:List RT}{k:Nat}(r:RT)(hk:k<R.length):setTo R r (k+1)=zB9 r (setTo R r k) (R.getD k rt0):=by
 unfold setTo;rw[List.take_succ_eq_append_getElem hk,List.foldl_append];simp[List.getD,hk]
theorem zv4(R:List RT)(r:RT):∀k,k<=R.length->(∀x∈(setTo R r k).1,x∈R∨x=r)/\(setTo R r k).1.length<=k+(if(setTo R r k).2 then 1 else 0)
 |0,_=>⟨fun x hx=>by simp[zy3]at hx,by simp[zy3]⟩
 |k+1,h=>by
  obtain⟨h1,h2⟩:=zv4 R r k (by omega);have hk:k<R.length:=by omega
  have hm:R.getD k rt0∈R:=by rw[List.getD_eq_getElem?_getD,List.getElem?_eq_getElem hk];simp
  rw[z93 r hk];unfold zB9;refine⟨fun x hx=> ?_,?_⟩
  ·simp only[List.mem_append]at hx
   rcases hx with(hx|hx)|hx
   ·exact h1 x hx
   ·split at hx
    ·exact .inr (by simpa using hx)
    ·cases hx
   ·split at hx
    ·cases hx
    ·have:x=R.getD k rt0:=by simpa using hx
     rw[this];exact .inl hm
  ·generalize R.getD k rt0=x
   have hA:(if x.v=r.v then []else [x]).length<=1:=by split<;>simp
   simp only[List.length_append];generalize(if x.v=r.v then []else [x]).length=y at*;generalize setTo R r k=s at*;obtain⟨o,d⟩:=s;simp only at h2⊢;cases d
   ·by_cases hv:r.v<=x.v<;>simp[hv]at h2⊢ <;>omega
   ·simp at h2⊢
    omega
theorem zs6(R:List RT)(r:RT):(∀x∈setL R r,x∈R∨x=r)/\(setL R r).length<=R.length+1:=by
 obtain⟨h1,h2⟩:=zv4 R r R.length (Nat.le_refl _);unfold setL;cases hd:(setTo R r R.length).2
 ·rw[hd]at h2
  simp only[Bool.false_eq_true,if_false]at h2⊢;refine⟨fun x hx=> ?_,by simp;omega⟩;rcases List.mem_append.1 hx with hx|hx
  ·exact h1 x hx
  ·exact .inr (by simpa using hx)
 ·rw[hd]at h2
  simp only[if_true]at h2⊢;exact⟨h1,h2⟩
theorem ym9{r x:RT}{o:List RT}(h:x.v<r.v):zB9 r (o,false) x=(o++[x],false):=by
 have h1:¬r.v<=x.v:=by omega
 have h2:¬x.v=r.v:=by omega
 simp[zB9,h1,h2]
theorem ym4{r x:RT}{o:List RT}(h:x.v=r.v):zB9 r (o,false) x=(o++[r],true):=by simp[zB9,h]
theorem yn0{r x:RT}{o:List RT}(h:r.v<x.v):zB9 r (o,false) x=(o++[r]++[x],true):=by
 have h1:r.v<=x.v:=by omega
 have h2:¬x.v=r.v:=by omega
 simp[zB9,h1,h2]
theorem ym0{r x:RT}{o:List RT}(h:x.v≠r.v):zB9 r (o,true) x=(o++[x],true):=by simp[zB9,h]
theorem yj4{r x:RT}{o:List RT}(h:x.v=r.v):zB9 r (o,true) x=(o,true):=by simp[zB9,h]
end Go.Proofs.YtjobhigmdaiinaaGreat
namespace Go.Proofs.YtjobhigmdaiinaaGreat
open Go.RowKit
def zb3(R:List RT)(k:Nat):List Int:=(R.take k).flatMap RT.ids
theorem zl6(R:List RT):zb3 R 0=[]:=by simp[zb3]
theorem zg3{R:List RT}{k:Nat}(h:k<R.length):zb3 R (k+1)=zb3 R k++(R.getD k rt0).ids:=by
 unfold zb3;rw[List.take_add_one,List.flatMap_append,List.getD_eq_getElem?_getD,List.getElem?_eq_getElem h];simp
theorem zP8(R:List RT):∀{k m:Nat},k<=m->m<=R.length->(zb3 R k).length<=(zb3 R m).length
 |k,0,h,_=>by have:k=0:=by omega
              subst this;exact Nat.le_refl _
 |k,m+1,h,hm=>by
  by_cases e:k=m+1
  ·rw[e];exact Nat.le_refl _
  ·have:=zP8 R (k:=k) (m:=m) (by omega) (by omega)
   rw[zg3 (by omega),List.length_append];omega
theorem zU9{R:List RT}{k j:Nat}(h:k<R.length)(hj:j<=(R.getD k rt0).ids.length):(zb3 R k++(R.getD k rt0).ids.take j).length<=(zb3 R R.length).length:=by
 have:=zP8 R (k:=k+1) (m:=R.length) (by omega) (Nat.le_refl _);rw[zg3 h,List.length_append]at this;rw[List.length_append,List.length_take];omega
def zf0(n:Int)(zs os vs:List Int)(ko kv:Nat)(R:List RT)(k:Nat):Prop:=∀j,j<k->(0<j->(R.getD (j - 1) rt0).v<(R.getD j rt0).v)/\(R.getD j rt0).ids≠[]/\codeV true n zs os vs ko kv (R.getD j rt0).v (R.getD j rt0).ids=0
theorem zf0.zero(n:Int)(zs os vs:List Int)(ko kv:Nat)(R:List RT):zf0 n zs os vs ko kv R 0:=fun j hj=>by omega
theorem zf0.step{n:Int}{zs os vs:List Int}{ko kv:Nat}{R:List RT}{k:Nat}(h:zf0 n zs os vs ko kv R k)(h1:0<k->(R.getD (k - 1) rt0).v<(R.getD k rt0).v)(h2:(R.getD k rt0).ids≠[])(h3:codeV true n zs os vs ko kv (R.getD k rt0).v (R.getD k rt0).ids=0):zf0 n zs os vs ko kv R (k+1):=fun j hj=>by
 by_cases e:j=k
 ·subst e;exact⟨h1,h2,h3⟩
 ·exact h j (by omega)
def zL8(fl L:List Int):Prop:=fl.Nodup/\∀x∈L,x∉fl
def ze3(os:List Int)(ko:Nat)(L:List Int)(k:Nat):Prop:=∀j,j<k->zi8 os ko (L.getD j 0)=true/\(0<j->L.getD (j - 1) 0<L.getD j 0)
theorem ze3.zero(os:List Int)(ko:Nat)(L:List Int):ze3 os ko L 0:=fun j hj=>by omega
theorem ze3.step{os:List Int}{ko:Nat}{L:List Int}{k:Nat}(h:ze3 os ko L k)(h1:zi8 os ko (L.getD k 0)=true)(h2:0<k->L.getD (k - 1) 0<L.getD k 0):ze3 os ko L (k+1):=fun j hj=>by
 by_cases e:j=k
 ·subst e;exact⟨h1,h2⟩
 ·exact h j (by omega)
open Classical in
noncomputable def zd7(n:Int)(zs os vs:List Int)(ko kv:Nat)(fine:Int)(R:List RT)(L:List Int):Int:=
 if zb8 n zs os vs ko kv fine=true then
  if zf0 n zs os vs ko kv R R.length then
   if zL8 (zb3 R R.length) L then
    if ze3 os ko L L.length/\(zb3 R R.length).length+L.length=ko then 0 else 4
   else 3
  else 2
 else 1
theorem zZ4{n:Int}{zs os vs:List Int}{ko kv:Nat}{fine:Int}{R:List RT}{L:List Int}(h:zb8 n zs os vs ko kv fine=false):zd7 n zs os vs ko kv fine R L=1:=by
 unfold zd7;rw[if_neg (by rw[h];simp)]
theorem zC0{n:Int}{zs os vs:List Int}{ko kv:Nat}{fine:Int}{R:List RT}{L:List Int}(h:zb8 n zs os vs ko kv fine=true)(h2:¬zf0 n zs os vs ko kv R R.length):zd7 n zs os vs ko kv fine R L=2:=by
 unfold zd7;rw[if_pos h,if_neg h2]
theorem ya0{n:Int}{zs os vs:List Int}{ko kv:Nat}{fine:Int}{R:List RT}{L:List Int}(h:zb8 n zs os vs ko kv fine=true)(h2:zf0 n zs os vs ko kv R R.length)(h3:¬zL8 (zb3 R R.length) L):zd7 n zs os vs ko kv fine R L=3:=by
 unfold zd7;rw[if_pos h,if_pos h2,if_neg h3]
theorem zD7{n:Int}{zs os vs:List Int}{ko kv:Nat}{fine:Int}{R:List RT}{L:List Int}(h:zb8 n zs os vs ko kv fine=true)(h2:zf0 n zs os vs ko kv R R.length)(h3:zL8 (zb3 R R.length) L)(h4:¬(ze3 os ko L L.length/\(zb3 R R.length).length+L.length=ko)):zd7 n zs os vs ko kv fine R L=4:=by
 unfold zd7;rw[if_pos h,if_pos h2,if_pos h3,if_neg h4]
theorem zP1{n:Int}{zs os vs:List Int}{ko kv:Nat}{fine:Int}{R:List RT}{L:List Int}(h:zb8 n zs os vs ko kv fine=true)(h2:zf0 n zs os vs ko kv R R.length)(h3:zL8 (zb3 R R.length) L)(h4:ze3 os ko L L.length)(h5:(zb3 R R.length).length+L.length=ko):zd7 n zs os vs ko kv fine R L=0:=by
 unfold zd7;rw[if_pos h,if_pos h2,if_pos h3,if_pos ⟨h4,h5⟩]
theorem zj0{n:Int}{zs os vs:List Int}{ko kv:Nat}{fine:Int}{R:List RT}{L:List Int}(h:zd7 n zs os vs ko kv fine R L=0):zb8 n zs os vs ko kv fine=true/\zf0 n zs os vs ko kv R R.length/\zL8 (zb3 R R.length) L/\ze3 os ko L L.length/\(zb3 R R.length).length+L.length=ko:=by
 unfold zd7 at h;by_cases h1:zb8 n zs os vs ko kv fine=true
 ·rw[if_pos h1]at h
  by_cases h2:zf0 n zs os vs ko kv R R.length
  ·rw[if_pos h2]at h
   by_cases h3:zL8 (zb3 R R.length) L
   ·rw[if_pos h3]at h
    by_cases h4:ze3 os ko L L.length/\(zb3 R R.length).length+L.length=ko
    ·exact⟨h1,h2,h3,h4⟩
    ·rw[if_neg h4]at h;cases h
   ·rw[if_neg h3]at h;cases h
  ·rw[if_neg h2]at h;cases h
 ·rw[if_neg h1]at h;cases h
theorem yo6{n:Int}{zs os vs:List Int}{ko kv:Nat}{fine veh:Int}{ids:List Int}(hc:zb8 n zs os vs ko kv fine=true)(h:codeV true n zs os vs ko kv veh ids=0):0<veh:=by
 have h5:=(zg2 (zi3 h).1).2.1;have hv:=(zc7 hc).2.2.1;unfold fnd5T at h5;cases hf:zR9 vs kv veh with
 |none=>rw[hf]at h5;cases h5
 |some i=>
  unfold zR9 at hf;have h1:=List.find?_some hf;have h2:i<kv:=by simpa using List.mem_of_find?_eq_some hf
  have h3:=((zs0 hv).2 i h2).1;simp at h1;unfold zE2 inB at h3;simp at h3;omega
theorem yp4{n:Int}{zs os vs:List Int}{ko kv:Nat}{fine id:Int}(hc:zb8 n zs os vs ko kv fine=true)(h:zi8 os ko id=true):0<id:=by
 have hv:=(zc7 hc).2.1;unfold zi8 at h;cases hf:zG1 os ko id with
 |none=>rw[hf]at h;cases h
 |some i=>
  unfold zG1 at hf;have h1:=List.find?_some hf;have h2:i<ko:=by simpa using List.mem_of_find?_eq_some hf
  have h3:=((zh0 hv).2 i h2).1;simp at h1;unfold z64 inB at h3;simp at h3;omega
def zT7(R:List RT):Nat->Int
 |0=>0
 |k+1=>(R.getD k rt0).v
def zX1(L:List Int):Nat->Int
 |0=>0
 |k+1=>L.getD k 0
theorem zQ2{n:Int}{zs os vs:List Int}{ko kv:Nat}{fine:Int}{R:List RT}{k:Nat}(hc:zb8 n zs os vs ko kv fine=true)(h:codeV true n zs os vs ko kv (R.getD k rt0).v (R.getD k rt0).ids=0):(0<k->(R.getD (k - 1) rt0).v<(R.getD k rt0).v)↔zT7 R k<(R.getD k rt0).v:=by
 cases k with
 |zero=>exact⟨fun _=>yo6 hc h,fun _ h=>by omega⟩
 |succ k=>exact⟨fun h=>h (by omega),fun h _=>h⟩
theorem zR5{n:Int}{zs os vs:List Int}{ko kv:Nat}{fine:Int}{L:List Int}{k:Nat}(hc:zb8 n zs os vs ko kv fine=true)(h:zi8 os ko (L.getD k 0)=true):(0<k->L.getD (k - 1) 0<L.getD k 0)↔zX1 L k<L.getD k 0:=by
 cases k with
 |zero=>exact⟨fun _=>yp4 hc h,fun _ h=>by omega⟩
 |succ k=>exact⟨fun h=>h (by omega),fun h _=>h⟩
theorem z66(zs:List Int)(id:Int):zr8 zs zs.length id=decide (id∈zs):=by
 by_cases h:id∈zs
 ·rw[decide_eq_true h]
  obtain⟨j,hj,e⟩:=List.getElem_of_mem h;exact z73 hj (by rw[List.getD_eq_getElem?_getD,List.getElem?_eq_getElem hj];exact e)
 ·rw[decide_eq_false h]
  exact zB6 fun j hj e=>h (by rw[<-e,List.getD_eq_getElem?_getD,List.getElem?_eq_getElem hj];simp)
theorem zt5(l:List Int)(x:Int):(l++[x]).Nodup↔l.Nodup/\x∉l:=by
 rw[List.nodup_append];constructor
 ·rintro⟨h1,_,h3⟩
  exact⟨h1,fun h=>h3 x h x (by simp) rfl⟩
 ·rintro⟨h1,h2⟩
  exact⟨h1,by simp,fun a ha b hb e=>h2 (by simp at hb;rw[<-hb,<-e];exact ha)⟩
end Go.Proofs.YtjobhigmdaiinaaGreat
namespace Go.Proofs.YtjobhigmdaiinaaGreat
open Go.RowKit
theorem zo4{R S:List RT}{b:Nat}(h:S.map RT.key=R.map RT.key)(hi:∀r∈R,r.ids≠[]/\r.ids.length<=b):∀s∈S,s.ids≠[]/\s.ids.length<=b:=fun s hs=>by
 have h1:s.key∈R.map RT.key:=by rw[<-h];exact List.mem_map_of_mem hs
 obtain⟨y,hy,e⟩:=List.mem_map.1 h1;have e2:y.ids=s.ids:=congrArg Prod.snd e;rw[<-e2];exact hi y hy
theorem zK5{R S:List RT}(h:S.map RT.key=R.map RT.key)(j:Nat):(S.getD j rt0).v=(R.getD j rt0).v/\(S.getD j rt0).ids=(R.getD j rt0).ids:=by
 have hl:S.length=R.length:=by simpa using congrArg List.length h
 rcases Nat.lt_or_ge j R.length with hj|hj
 ·have e:(S.map RT.key)[j]? =(R.map RT.key)[j]? :=by rw[h]
  rw[List.getElem?_map,List.getElem?_map,List.getElem?_eq_getElem (by omega),List.getElem?_eq_getElem hj]at e;simp only[Option.map_some,Option.some.injEq,RT.key,Prod.mk.injEq]at e;simp only[List.getD_eq_getElem?_getD,List.getElem?_eq_getElem hj,List.getElem?_eq_getElem (show j<S.length by omega),Option.getD_some];exact e
 ·have e1:R.getD j rt0=rt0:=by rw[List.getD_eq_getElem?_getD,List.getElem?_eq_none hj];rfl
  have e2:S.getD j rt0=rt0:=by rw[List.getD_eq_getElem?_getD,List.getElem?_eq_none (show S.length<=j by omega)];rfl
  rw[e1,e2];exact⟨rfl,rfl⟩
theorem yb9{R S:List RT}(h:S.map RT.key=R.map RT.key):S.length=R.length:=by
 have:=congrArg List.length h;simpa using this
theorem ya9{R S:List RT}(h:S.map RT.key=R.map RT.key)(k:Nat):zb3 S k=zb3 R k:=by
 have e:∀T:List RT,zb3 T k=((T.map RT.key).take k).flatMap (fun x=>x.2):=fun T=>by
  unfold zb3;rw[<-List.map_take,List.flatMap_map];rfl
 rw[e S,e R,h]
theorem zH2{n:Int}{zs os vs:List Int}{ko kv:Nat}{R S:List RT}(h:S.map RT.key=R.map RT.key)(k:Nat):zf0 n zs os vs ko kv S k↔zf0 n zs os vs ko kv R k:=by
 have e:=zK5 h;unfold zf0;constructor
 ·intro H j hj
  have:=H j hj;rw[(e j).1,(e j).2,(e (j - 1)).1]at this;exact this
 ·intro H j hj
  have:=H j hj;rw[(e j).1,(e j).2,(e (j - 1)).1];exact this
theorem zr0{n:Int}{zs os vs:List Int}{ko kv:Nat}{fine:Int}{R S:List RT}(L:List Int)(h:S.map RT.key=R.map RT.key):zd7 n zs os vs ko kv fine S L=zd7 n zs os vs ko kv fine R L:=by
 unfold zd7;rw[yb9 h,ya9 h];by_cases hc:zb8 n zs os vs ko kv fine=true
 ·rw[if_pos hc,if_pos hc]
  by_cases hr:zf0 n zs os vs ko kv R R.length
  ·rw[if_pos hr,if_pos ((zH2 h _).2 hr)]
  ·rw[if_neg hr,if_neg (fun x=>hr ((zH2 h _).1 x))]
 ·rw[if_neg hc,if_neg hc]
end Go.Proofs.YtjobhigmdaiinaaGreat
namespace Go.Proofs.YtjobhigmdaiinaaGreat
open Go.RowKit
def zv7(n:Int)(zs os vs:List Int)(ko kv:Nat)(r:RT):Int:=zn3 n zs (zc4 os ko r.ids) r.ids.length (zb5 vs kv r.v 1)
def zq6(n:Int)(zs os vs:List Int)(ko kv:Nat)(R:List RT)(z:Int):Nat->Int
 |0=>z
 |k+1=>zq6 n zs os vs ko kv R z k+zv7 n zs os vs ko kv (R.getD k rt0)
open Classical in
noncomputable def zv8(n:Int)(zs os vs:List Int)(ko kv:Nat)(fine:Int)(R:List RT)(L:List Int):Int:=
 if zd7 n zs os vs ko kv fine R L=0 then zq6 n zs os vs ko kv R (fine*L.length) R.length else -1
theorem yh9{n:Int}{zs os vs:List Int}{ko kv:Nat}{fine:Int}{R:List RT}{k m:Nat}(hc:zb8 n zs os vs ko kv fine=true)(h:zf0 n zs os vs ko kv R m)(hk:k<m):0<=zv7 n zs os vs ko kv (R.getD k rt0)/\zv7 n zs os vs ko kv (R.getD k rt0)<=130000:=
 zs7 (zc7 hc).1 _ _ (zf5 (zg2 (zi3 (h k hk).2.2).1).2.2).1 _
theorem zQ3{n:Int}{zs os vs:List Int}{ko kv:Nat}{fine:Int}{R:List RT}{m:Nat}(hc:zb8 n zs os vs ko kv fine=true)(h:zf0 n zs os vs ko kv R m)(z:Int):∀k,k<=m->z<=zq6 n zs os vs ko kv R z k/\zq6 n zs os vs ko kv R z k<=z+130000*k
 |0,_=>by simp[zq6]
 |k+1,hk=>by
  have ih:=zQ3 hc h z k (by omega);have h1:=yh9 hc h (show k<m by omega);simp only[zq6];omega
theorem yb7{n:Int}{zs os vs:List Int}{ko kv:Nat}{R:List RT}:∀{k:Nat},k<=R.length->zf0 n zs os vs ko kv R k->k<=(zb3 R k).length
 |0,_,_=>Nat.zero_le _
 |k+1,hk,h=>by
  have ih:=yb7 (k:=k) (by omega) (fun j hj=>h j (by omega));have h2:=(h k (by omega)).2.1;have h3:=List.length_pos_iff.2 h2;rw[zg3 (by omega),List.length_append];omega
theorem zV4{n:Int}{zs os vs:List Int}{ko kv:Nat}{fine:Int}{R:List RT}{L:List Int}(h:zd7 n zs os vs ko kv fine R L=0):R.length<=12/\L.length<=12/\0<=fine*L.length/\fine*L.length<=12000000:=by
 obtain⟨h1,h2,_,_,h5⟩:=zj0 h;have h6:=yb7 (Nat.le_refl _) h2;have h7:=(zh0 (zc7 h1).2.1).1;obtain⟨_,_,_,_,h8,h9⟩:=zc7 h1;refine⟨by omega,by omega,Int.mul_nonneg h8 (by omega),?_⟩;have:=Int.mul_le_mul h9 (show(L.length:Int)<=12 by omega) (by omega) (by omega);omega
theorem zG7{n:Int}{zs os vs:List Int}{ko kv:Nat}{R S:List RT}(h:S.map RT.key=R.map RT.key)(z:Int):∀k,zq6 n zs os vs ko kv S z k=zq6 n zs os vs ko kv R z k
 |0=>rfl
 |k+1=>by
  simp only[zq6,zG7 h z k,zv7,(zK5 h k).1,(zK5 h k).2]
theorem yg3{n:Int}{zs os vs:List Int}{ko kv:Nat}{fine:Int}{R S:List RT}(L:List Int)(h:S.map RT.key=R.map RT.key):zv8 n zs os vs ko kv fine S L=zv8 n zs os vs ko kv fine R L:=by
 unfold zv8;rw[zr0 L h,yb9 h,zG7 h]
end Go.Proofs.YtjobhigmdaiinaaGreat
namespace Go.Proofs.YtjobhigmdaiinaaGreat
open Go.RowKit
structure GQ(w W:World)(cs ps:Array Value):Prop where
 b:Below w.heap.size w W
 c:W.heap[w.heap.size]? =some (.cells cs 30 (0,0))
 p:W.heap[w.heap.size+1]? =some (.cells ps 33 (0,0))
 o:W.heap[w.heap.size+2]? =some (.cells #[.slice none 0 0,.slice none 0 0] 33 (0,0))
theorem GQ.below{w W W':World}{cs ps:Array Value}(h:GQ w W cs ps)(hb:Below W.heap.size W W'):GQ w W' cs ps:=
 ⟨h.b.trans (hb.mono h.b.size),za1 hb (za3 h.c) h.c,za1 hb (za3 h.p) h.p,za1 hb (za3 h.o) h.o⟩
theorem GQ.size{w W:World}{cs ps:Array Value}(h:GQ w W cs ps):w.heap.size+3<=W.heap.size:=za3 h.o
def zd5(w:World)(ra la:Option Addr)(rn ln:Nat)(R:List RT)(L:List Int):Prop:=R.length=rn/\L.length=ln/\za6 w ra R/\za0 w la L/\((ra=none/\rn=0)∨∃b off,ra=some ⟨b,off,none⟩)/\((la=none/\ln=0)∨∃b off,la=some ⟨b,off,none⟩)/\(∀r∈R,r.ids.length<=r.c)
theorem zd5.below{w w':World}{ra la:Option Addr}{rn ln:Nat}{R:List RT}{L:List Int}(h:zd5 w ra la rn ln R L)(hb:Below w.heap.size w w'):zd5 w' ra la rn ln R L:=
 ⟨h.1,h.2.1,h.2.2.1.below hb,h.2.2.2.1.below hb,h.2.2.2.2⟩
def Off(k:Nat)(ra la:Option Addr)(R:List RT):Prop:=(∀b off,ra=some ⟨b,off,none⟩->b≠k)/\(∀b off,la=some ⟨b,off,none⟩->b≠k)/\∀r∈R,∀b off,r.a=some ⟨b,off,none⟩->b≠k
theorem zE3{w:World}{k i b o:Nat}{u v:Value}(h:w.cell? ⟨b,o,none⟩=some v)(hb:b≠k):(w.setCell ⟨k,i,none⟩ u).cell? ⟨b,o,none⟩=some v:=za4 h hb
theorem zT0{w:World}{k i:Nat}{u:Value}{a:Option Addr}{xs:List Int}(h:za0 w a xs)(hb:∀b off,a=some ⟨b,off,none⟩->b≠k):za0 (w.setCell ⟨k,i,none⟩ u) a xs:=fun j hj=>by
 obtain⟨b,off,e,h1⟩:=h j hj;exact⟨b,off,e,zE3 h1 (hb b off e)⟩
theorem zd5.off{w:World}{k i:Nat}{u:Value}{ra la:Option Addr}{rn ln:Nat}{R:List RT}{L:List Int}(h:zd5 w ra la rn ln R L)(ho:Off k ra la R):zd5 (w.setCell ⟨k,i,none⟩ u) ra la rn ln R L:=by
 refine⟨h.1,h.2.1,fun j hj=> ?_,zT0 h.2.2.2.1 ho.2.1,h.2.2.2.2⟩;obtain⟨b,off,e,h1,h2,h3⟩:=h.2.2.1 j hj;have hm:R.getD j rt0∈R:=by rw[List.getD_eq_getElem?_getD,List.getElem?_eq_getElem hj];simp
 exact⟨b,off,e,zE3 h1 (ho.1 b off e),zE3 h2 (ho.1 b off e),zT0 h3 (ho.2.2 _ hm)⟩
theorem yi3{R S:List RT}(h:S.map RT.key=R.map RT.key)(j:Nat):(S.getD j rt0).v=(R.getD j rt0).v/\(S.getD j rt0).ids=(R.getD j rt0).ids:=by
 have hl:S.length=R.length:=by simpa using congrArg List.length h
 rcases Nat.lt_or_ge j R.length with hj|hj
 ·have e:(S.map RT.key)[j]? =(R.map RT.key)[j]? :=by rw[h]
  rw[List.getElem?_map,List.getElem?_map,List.getElem?_eq_getElem (by omega),List.getElem?_eq_getElem hj]at e;simp only[Option.map_some,Option.some.injEq,RT.key,Prod.mk.injEq]at e;simp only[List.getD_eq_getElem?_getD,List.getElem?_eq_getElem hj,List.getElem?_eq_getElem (show j<S.length by omega),Option.getD_some];exact e
 ·have e1:R.getD j rt0=rt0:=by rw[List.getD_eq_getElem?_getD,List.getElem?_eq_none hj];rfl
  have e2:S.getD j rt0=rt0:=by rw[List.getD_eq_getElem?_getD,List.getElem?_eq_none (show S.length<=j by omega)];rfl
  rw[e1,e2];exact⟨rfl,rfl⟩
set_option maxHeartbeats 2000000 in
theorem zC6(ra sa la ma:Option Addr)(rc sc n lc mc m:Nat)(R S:List RT)(L:List Int)(w:World)(hA:za6 w ra R)(hB:za6 w sa S)(hk:S.map RT.key=R.map RT.key)(hR:R.length=n)(hn:n<=1048576)(hi:∀r∈R,r.ids.length<=1000)(hL:za0 w la L)(hM:za0 w ma L)(hm:L.length=m)(hll:m<=1048576):
 Calls Tryz.prog 11 #[.agg #[.slice ra n rc,.slice la m lc],.agg #[.slice sa n sc,.slice ma m mc]] w fun e w'=>e=.returned (.bool true)/\Below w.heap.size w w':=by
 have HA:Hid (za6 w ra R):=hA;have HB:Hid (za6 w sa S):=hB;have HL:Hid (za0 w la L):=hL;have HM:Hid (za0 w ma L):=hM;have HK:Hid _:=hk;have HR:Hid (R.length=n):=hR;have HS:Hid (S.length=n):=by show _=_;rw[<-hR];simpa using congrArg List.length hk
 have HI:Hid _:=hi;have HML:Hid (L.length=m):=hm;have B0:Hid (Below w.heap.size w ((w.alloc (.cells #[.slice ra n rc,.slice la m lc] 33)).alloc (.cells #[.slice sa n sc,.slice ma m mc] 33))):=((Below.refl _ _).alloc (Nat.le_refl _) _).alloc (by simp) _;have G0:Hid (((w.alloc (.cells #[.slice ra n rc,.slice la m lc] 33)).alloc (.cells #[.slice sa n sc,.slice ma m mc] 33)).heap[w.heap.size]? =some (.cells #[.slice ra n rc,.slice la m lc] 33 (0,0))):=heap_alloc2_old _ _ _;have G1:Hid (((w.alloc (.cells #[.slice ra n rc,.slice la m lc] 33)).alloc (.cells #[.slice sa n sc,.slice ma m mc] 33)).heap[w.heap.size+1]? =some (.cells #[.slice sa n sc,.slice ma m mc] 33 (0,0))):=heap_alloc2_new _ _ _;clear hA hB hL hM hk hR hi hm;have SI:Hid (∀W,za0 W la L->za0 W ma L->Calls Tryz.prog 27 #[.slice la m lc,.slice ma m mc] W fun e w'=>e=.returned (.bool true)/\Below W.heap.size W w'):=fun W h1 h2=>by
  have:=z12 la ma lc mc L L W h1 h2 (by rw[HML.out];omega);rw[show decide (L=L)=true from decide_eq_true rfl,HML.out]at this;exact this
 obtain⟨c0,c1⟩:=za2 G0.out;obtain⟨d0,d1⟩:=za2 G1.out;go_enter Tryz.func11,Tryz.ntmps11
 go_wp2_with fail
 clear c0 c1 d0 d1;generalize(w.alloc (.cells #[.slice ra n rc,.slice la m lc] 33)).alloc (.cells #[.slice sa n sc,.slice ma m mc] 33)=W0 at*;refine(SI.out W0 (HL.below B0.out) (HM.below B0.out)).mono ?_;rintro e w1 ⟨rfl,hb⟩;have B1:Hid _:=B0.trans (hb.mono B0.size);have F0:Hid _:=za1 hb (za3 G0.out) G0.out;have F1:Hid _:=za1 hb (za3 G1.out) G1.out;clear hb B0 G0 G1
 go_wp2_with fail
 go_loopw[5] (fun ti wr=>∃i:Nat,i<=n/\ti=.int .i64 i/\Below w1.heap.size w1 wr) (fun ti _=>n - (intOf ti).toNat)
 case atStart=>exact⟨0,Nat.zero_le _,rfl,Below.refl _ _⟩
 case round=>
  obtain⟨i,hi,rfl,hb⟩:=hrel;have BW:Hid _:=hb;have C1:Hid _:=B1.trans (hb.mono B1.size);clear hb;obtain⟨c0,c1⟩:=za2 (za1 BW.out (za3 F0.out) F0.out);obtain⟨d0,d1⟩:=za2 (za1 BW.out (za3 F1.out) F1.out);by_cases hlt:i<n
  ·obtain⟨b1,o1,e1,k1,k2,i1⟩:=(HA.below C1.out) i (by rw[HR.out];exact hlt)
   obtain⟨b2,o2,e2,j1,j2,i2⟩:=(HB.below C1.out) i (by rw[HS.out];exact hlt);have hkey:=yi3 HK.out i;have him:(R.getD i rt0).ids.length<=1000:=HI.out _ (by
    have:i<R.length:=by rw[HR.out];exact hlt
    rw[List.getD_eq_getElem?_getD,List.getElem?_eq_getElem this];simp)
   subst e1 e2;generalize R.getD i rt0=r at*;generalize S.getD i rt0=s at*;obtain⟨rv,rra,rids,rcc⟩:=r;obtain⟨sv,ssa,sids,scc⟩:=s;simp only at hkey k1 k2 i1 j1 j2 i2 him;obtain⟨rfl,rfl⟩:=hkey;have ER:Hid (∀W,Below wr.heap.size wr W->Calls Tryz.prog 28 #[.agg #[.int .i64 sv,.slice rra sids.length rcc],.agg #[.int .i64 sv,.slice ssa sids.length scc]] W fun e w'=>e=.returned (.bool true)/\Below W.heap.size W w'):=fun W hb=>z90 sv rra ssa rcc scc sids W (i1.below hb) (i2.below hb) (by omega)
   clear i1 i2;have hin:(i:Int)<n:=by omega
   have z1:=fun s:Kin wr=>s.cell k1;have z2:=fun s:Kin wr=>s.cell k2;have z3:=fun s:Kin wr=>s.cell j1;have z4:=fun s:Kin wr=>s.cell j2;have z5:=fun s:Kin wr=>s.cell c0;have z6:=fun s:Kin wr=>s.cell d0;have hkin:=Kin.there wr;generalize sids.length=m at*
   go_wp2_with fail
   refine zb2 (by kernel_rfl) (by kernel_rfl) ?_
   repeat(go_big_quiet_step ((go_at_call 28;with_reducible exact Kin.call (ER.out _ (Kin.below _)))))
   refine wpQuiet_nil ?_;rintro _ ⟨s1,rfl⟩;clear z1 z2 z3 z4 z5 z6 hkin;go_wp2;go_roundw
   case rel=>exact⟨i+1,by omega,by first|rfl|go_num,BW.trans (s1.below.mono BW.size)⟩
   case measure=>simp[intOf];omega
  ·have hin:¬((i:Int)<n):=by omega
   go_wp2;go_ret;exact⟨rfl,C1.out⟩
end Go.Proofs.YtjobhigmdaiinaaGreat
