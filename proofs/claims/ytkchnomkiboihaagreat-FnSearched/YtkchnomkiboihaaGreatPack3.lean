import Derived.Test.YtkchnomkiboihaaGreatPack1
set_option linter.unusedSimpArgs false
set_option maxHeartbeats 2000000
namespace Go.Proofs.YtkchnomkiboihaaGreat
theorem xS:type_of% @List.length_append:=@List.length_append
theorem xT:type_of% @Option.some.injEq:=@Option.some.injEq
theorem xU:type_of% @List.getElem_of_mem:=@List.getElem_of_mem
theorem xV:type_of% @List.length_pos_iff:=@List.length_pos_iff
theorem xW:type_of% @List.flatMap_append:=@List.flatMap_append
theorem xX:type_of% @List.mem_of_find?_eq_some:=@List.mem_of_find?_eq_some
open Value renaming slice→za,int→ze
open IntKind renaming i64→zd
open Go.RowKit
open Q
structure RT where
 v:Int
 a:Option Addr
 ids:List Int
 c:Nat
def rt0:RT:=⟨0,none,[],0⟩
instance:Inhabited RT:=⟨rt0⟩
def RT.key(r:RT):Int×List Int:=(r.v,r.ids)
def zq1(r:RT):List Value:=[ze zd r.v,za r.a r.ids.length r.c]
def zj5(R:List RT):List Value:=R.flatMap zq1
theorem zH2(r:RT)(R:List RT):zj5 (r::R)=zq1 r++zj5 R:=by simp[zj5]
theorem zp7(R S:List RT):zj5 (R++S)=zj5 R++zj5 S:=by simp[zj5]
theorem zg6(R:List RT):(zj5 R).length=R.length*2:=by
 induction R with
 |nil=>rfl
 |cons r R ih=>rw[zH2,xS,ih];simp[zq1];omega
theorem zH9:∀(R:List RT) (j:Nat),j<R.length->(zj5 R)[j*2]? =some (ze zd (R.getD j rt0).v)/\(zj5 R)[j*2+1]? =some (.slice (R.getD j rt0).a (R.getD j rt0).ids.length (R.getD j rt0).c)
 |[],j,h=>by simp at h
 |r::R,0,_=>by rw[zH2];exact⟨rfl,rfl⟩
 |r::R,j+1,h=>by
  have ih:=zH9 R j (by simpa using h);rw[zH2];have e1:(j+1)*2=j*2+2:=by omega
  have e2:(j+1)*2+1=j*2+1+2:=by omega
  rw[e2,e1];simpa[zq1]using ih
def za9(w:World)(ra:Option Addr)(R:List RT):Prop:=∀j,j<R.length->∃b off,ra=some ⟨b,off,none⟩/\w.cell? ⟨b,off+j*2,none⟩=some (ze zd (R.getD j rt0).v)/\w.cell? ⟨b,off+j*2+1,none⟩=some (.slice (R.getD j rt0).a (R.getD j rt0).ids.length (R.getD j rt0).c)/\za3 w (R.getD j rt0).a (R.getD j rt0).ids
theorem za9.below{w w':World}{ra:Option Addr}{R:List RT}(h:za9 w ra R)(hb:Below w.heap.size w w'):za9 w' ra R:=fun j hj=>by
 obtain⟨b,off,e,h1,h2,h3⟩:=h j hj;exact⟨b,off,e,(hb.cell (p:=⟨b,off+j*2,none⟩) (zV h1)).trans h1,(hb.cell (p:=⟨b,off+j*2+1,none⟩) (zV h2)).trans h2,h3.below hb⟩
def zO3(r:RT)(s:List RT×Bool)(x:RT):List RT×Bool:=
 (s.1++(if s.2=false/\r.v<=x.v then [r]else [])++(if x.v=r.v then []else [x]),s.2||decide (r.v<=x.v))
def setTo(R:List RT)(r:RT)(k:Nat):List RT×Bool:=(R.take k).foldl (zO3 r) ([],false)
def setL(R:List RT)(r:RT):List RT:=if(setTo R r R.length).2 then(setTo R r R.length).1 else(setTo R r R.length).1++[r]
theorem z89(R:List RT)(r:RT):setTo R r 0=([],false):=rfl
theorem zM8{R:List RT}{k:Nat}(r:RT)(hk:k<R.length):setTo R r (k+1)=zO3 r (setTo R r k) (R.getD k rt0):=by
 unfold setTo;rw[yq hk,yH];simp[List.getD,hk]
theorem z17(R:List RT)(r:RT):∀k,k<=R.length->(∀x∈(setTo R r k).1,x∈R∨x=r)/\(setTo R r k).1.length<=k+(if(setTo R r k).2 then 1 else 0)
 |0,_=>⟨fun x hx=>by simp[z89]at hx,by simp[z89]⟩
 |k+1,h=>by
  obtain⟨h1,h2⟩:=z17 R r k (by omega);have hk:k<R.length:=by omega
  have hm:R.getD k rt0∈R:=by rw[zQ,zR hk];simp
  rw[zM8 r hk];unfold zO3;refine⟨fun x hx=> ?_,?_⟩
  ·simp only[yj]at hx
   rcases hx with(hx|hx)|hx
   ·exact h1 x hx
   ·split at hx
    ·exact .inr (by simpa using hx)
    ·cases hx
   ·split at hx
    ·cases hx
    ·have:x=R.getD k rt0:=by simpa using hx
     rw[this];exact .inl hm
  ·generalize R.getD k rt0=x
   have hA:(if x.v=r.v then []else [x]).length<=1:=by split<;>simp
   simp only[xS];generalize(if x.v=r.v then []else [x]).length=y at*;generalize setTo R r k=s at*;obtain⟨o,d⟩:=s;simp only at h2⊢;cases d
   ·by_cases hv:r.v<=x.v<;>simp[hv]at h2⊢ <;>omega
   ·simp at h2⊢
    omega
theorem zy7(R:List RT)(r:RT):(∀x∈setL R r,x∈R∨x=r)/\(setL R r).length<=R.length+1:=by
 obtain⟨h1,h2⟩:=z17 R r R.length (zT _);unfold setL;cases hd:(setTo R r R.length).2
 ·rw[hd]at h2
  simp only[Bool.false_eq_true,if_false]at h2⊢;refine⟨fun x hx=> ?_,by simp;omega⟩;rcases yj.1 hx with hx|hx
  ·exact h1 x hx
  ·exact .inr (by simpa using hx)
 ·rw[hd]at h2
  simp only[if_true]at h2⊢;exact⟨h1,h2⟩
theorem yA9{r x:RT}{o:List RT}(h:x.v<r.v):zO3 r (o,false) x=(o++[x],false):=by
 have h1:¬r.v<=x.v:=by omega
 have h2:¬x.v=r.v:=by omega
 simp[zO3,h1,h2]
theorem yB4{r x:RT}{o:List RT}(h:x.v=r.v):zO3 r (o,false) x=(o++[r],true):=by simp[zO3,h]
theorem yB1{r x:RT}{o:List RT}(h:r.v<x.v):zO3 r (o,false) x=(o++[r]++[x],true):=by
 have h1:r.v<=x.v:=by omega
 have h2:¬x.v=r.v:=by omega
 simp[zO3,h1,h2]
theorem y99{r x:RT}{o:List RT}(h:x.v≠r.v):zO3 r (o,true) x=(o++[x],true):=by simp[zO3,h]
theorem y70{r x:RT}{o:List RT}(h:x.v=r.v):zO3 r (o,true) x=(o,true):=by simp[zO3,h]
theorem zm8:(Tryz.prog.info? 80).map (fun i=>(i.zero,i.size,i.bytes))=some (some (.agg #[ze zd 0,za none 0 0]),2,32):=by kernel_rfl
end Go.Proofs.YtkchnomkiboihaaGreat
namespace Go.Proofs.YtkchnomkiboihaaGreat
open Go.RowKit
open Q
def zb0(R:List RT)(k:Nat):List Int:=(R.take k).flatMap RT.ids
theorem zk1(R:List RT):zb0 R 0=[]:=by simp[zb0]
theorem zf9{R:List RT}{k:Nat}(h:k<R.length):zb0 R (k+1)=zb0 R k++(R.getD k rt0).ids:=by
 unfold zb0;rw[yI,xW,zQ,zR h];simp
theorem zT7(R:List RT):∀{k m:Nat},k<=m->m<=R.length->(zb0 R k).length<=(zb0 R m).length
 |k,0,h,_=>by have:k=0:=by omega
              subst this;exact zT _
 |k,m+1,h,hm=>by
  by_cases e:k=m+1
  ·rw[e];exact zT _
  ·have:=zT7 R (k:=k) (m:=m) (by omega) (by omega)
   rw[zf9 (by omega),xS];omega
theorem zN5{R:List RT}{k j:Nat}(h:k<R.length)(hj:j<=(R.getD k rt0).ids.length):(zb0 R k++(R.getD k rt0).ids.take j).length<=(zb0 R R.length).length:=by
 have:=zT7 R (k:=k+1) (m:=R.length) (by omega) (zT _);rw[zf9 h,xS]at this;rw[xS,yh];omega
def zi4(n:Int)(zs os vs:List Int)(ko kv:Nat)(R:List RT)(k:Nat):Prop:=∀j,j<k->(0<j->(R.getD (j - 1) rt0).v<(R.getD j rt0).v)/\(R.getD j rt0).ids≠[]/\codeV true n zs os vs ko kv (R.getD j rt0).v (R.getD j rt0).ids=0
theorem zi4.zero(n:Int)(zs os vs:List Int)(ko kv:Nat)(R:List RT):zi4 n zs os vs ko kv R 0:=fun j hj=>by omega
theorem zi4.step{n:Int}{zs os vs:List Int}{ko kv:Nat}{R:List RT}{k:Nat}(h:zi4 n zs os vs ko kv R k)(h1:0<k->(R.getD (k - 1) rt0).v<(R.getD k rt0).v)(h2:(R.getD k rt0).ids≠[])(h3:codeV true n zs os vs ko kv (R.getD k rt0).v (R.getD k rt0).ids=0):zi4 n zs os vs ko kv R (k+1):=fun j hj=>by
 by_cases e:j=k
 ·subst e;exact⟨h1,h2,h3⟩
 ·exact h j (by omega)
def yb8(fl L:List Int):Prop:=fl.Nodup/\∀x∈L,x∉fl
def zg5(os:List Int)(ko:Nat)(L:List Int)(k:Nat):Prop:=∀j,j<k->zl8 os ko (L.getD j 0)=true/\(0<j->L.getD (j - 1) 0<L.getD j 0)
theorem zg5.zero(os:List Int)(ko:Nat)(L:List Int):zg5 os ko L 0:=fun j hj=>by omega
theorem zg5.step{os:List Int}{ko:Nat}{L:List Int}{k:Nat}(h:zg5 os ko L k)(h1:zl8 os ko (L.getD k 0)=true)(h2:0<k->L.getD (k - 1) 0<L.getD k 0):zg5 os ko L (k+1):=fun j hj=>by
 by_cases e:j=k
 ·subst e;exact⟨h1,h2⟩
 ·exact h j (by omega)
open Classical in
noncomputable def zc1(n:Int)(zs os vs:List Int)(ko kv:Nat)(fine:Int)(R:List RT)(L:List Int):Int:=
 if zd0 n zs os vs ko kv fine=true then
  if zi4 n zs os vs ko kv R R.length then
   if yb8 (zb0 R R.length) L then
    if zg5 os ko L L.length/\(zb0 R R.length).length+L.length=ko then 0 else 4
   else 3
  else 2
 else 1
theorem yt1{n:Int}{zs os vs:List Int}{ko kv:Nat}{fine:Int}{R:List RT}{L:List Int}(h:zd0 n zs os vs ko kv fine=false):zc1 n zs os vs ko kv fine R L=1:=by
 unfold zc1;rw[ye (by rw[h];simp)]
theorem zO8{n:Int}{zs os vs:List Int}{ko kv:Nat}{fine:Int}{R:List RT}{L:List Int}(h:zd0 n zs os vs ko kv fine=true)(h2:¬zi4 n zs os vs ko kv R R.length):zc1 n zs os vs ko kv fine R L=2:=by
 unfold zc1;rw[z7 h,ye h2]
theorem y11{n:Int}{zs os vs:List Int}{ko kv:Nat}{fine:Int}{R:List RT}{L:List Int}(h:zd0 n zs os vs ko kv fine=true)(h2:zi4 n zs os vs ko kv R R.length)(h3:¬yb8 (zb0 R R.length) L):zc1 n zs os vs ko kv fine R L=3:=by
 unfold zc1;rw[z7 h,z7 h2,ye h3]
theorem zO7{n:Int}{zs os vs:List Int}{ko kv:Nat}{fine:Int}{R:List RT}{L:List Int}(h:zd0 n zs os vs ko kv fine=true)(h2:zi4 n zs os vs ko kv R R.length)(h3:yb8 (zb0 R R.length) L)(h4:¬(zg5 os ko L L.length/\(zb0 R R.length).length+L.length=ko)):zc1 n zs os vs ko kv fine R L=4:=by
 unfold zc1;rw[z7 h,z7 h2,z7 h3,ye h4]
theorem zT8{n:Int}{zs os vs:List Int}{ko kv:Nat}{fine:Int}{R:List RT}{L:List Int}(h:zd0 n zs os vs ko kv fine=true)(h2:zi4 n zs os vs ko kv R R.length)(h3:yb8 (zb0 R R.length) L)(h4:zg5 os ko L L.length)(h5:(zb0 R R.length).length+L.length=ko):zc1 n zs os vs ko kv fine R L=0:=by
 unfold zc1;rw[z7 h,z7 h2,z7 h3,z7 ⟨h4,h5⟩]
theorem zb7{n:Int}{zs os vs:List Int}{ko kv:Nat}{fine:Int}{R:List RT}{L:List Int}(h:zc1 n zs os vs ko kv fine R L=0):zd0 n zs os vs ko kv fine=true/\zi4 n zs os vs ko kv R R.length/\yb8 (zb0 R R.length) L/\zg5 os ko L L.length/\(zb0 R R.length).length+L.length=ko:=by
 unfold zc1 at h;by_cases h1:zd0 n zs os vs ko kv fine=true
 ·rw[z7 h1]at h
  by_cases h2:zi4 n zs os vs ko kv R R.length
  ·rw[z7 h2]at h
   by_cases h3:yb8 (zb0 R R.length) L
   ·rw[z7 h3]at h
    by_cases h4:zg5 os ko L L.length/\(zb0 R R.length).length+L.length=ko
    ·exact⟨h1,h2,h3,h4⟩
    ·rw[ye h4]at h;cases h
   ·rw[ye h3]at h;cases h
  ·rw[ye h2]at h;cases h
 ·rw[ye h1]at h;cases h
theorem yB8{n:Int}{zs os vs:List Int}{ko kv:Nat}{fine ab:Int}{ids:List Int}(hc:zd0 n zs os vs ko kv fine=true)(h:codeV true n zs os vs ko kv ab ids=0):0<ab:=by
 have h5:=(zf3 (zg8 h).1).2.1;have hv:=(zb2 hc).2.2.1;unfold fnd5T at h5;cases hf:yb2 vs kv ab with
 |none=>rw[hf]at h5;cases h5
 |some i=>
  unfold yb2 at hf;have h1:=List.find?_some hf;have h2:i<kv:=by simpa using xX hf
  have h3:=((zf2 hv).2 i h2).1;simp at h1;unfold zL5 inB at h3;simp at h3;omega
theorem yC7{n:Int}{zs os vs:List Int}{ko kv:Nat}{fine id:Int}(hc:zd0 n zs os vs ko kv fine=true)(h:zl8 os ko id=true):0<id:=by
 have hv:=(zb2 hc).2.1;unfold zl8 at h;cases hf:zU0 os ko id with
 |none=>rw[hf]at h;cases h
 |some i=>
  unfold zU0 at hf;have h1:=List.find?_some hf;have h2:i<ko:=by simpa using xX hf
  have h3:=((zd9 hv).2 i h2).1;simp at h1;unfold zG3 inB at h3;simp at h3;omega
def yo9(R:List RT):Nat->Int
 |0=>0
 |k+1=>(R.getD k rt0).v
def yq9(L:List Int):Nat->Int
 |0=>0
 |k+1=>L.getD k 0
theorem yk3{n:Int}{zs os vs:List Int}{ko kv:Nat}{fine:Int}{R:List RT}{k:Nat}(hc:zd0 n zs os vs ko kv fine=true)(h:codeV true n zs os vs ko kv (R.getD k rt0).v (R.getD k rt0).ids=0):(0<k->(R.getD (k - 1) rt0).v<(R.getD k rt0).v)↔yo9 R k<(R.getD k rt0).v:=by
 cases k with
 |zero=>exact⟨fun _=>yB8 hc h,fun _ h=>by omega⟩
 |succ k=>exact⟨fun h=>h (by omega),fun h _=>h⟩
theorem yk5{n:Int}{zs os vs:List Int}{ko kv:Nat}{fine:Int}{L:List Int}{k:Nat}(hc:zd0 n zs os vs ko kv fine=true)(h:zl8 os ko (L.getD k 0)=true):(0<k->L.getD (k - 1) 0<L.getD k 0)↔yq9 L k<L.getD k 0:=by
 cases k with
 |zero=>exact⟨fun _=>yC7 hc h,fun _ h=>by omega⟩
 |succ k=>exact⟨fun h=>h (by omega),fun h _=>h⟩
theorem zs9(zs:List Int)(id:Int):z02 zs zs.length id=decide (id∈zs):=by
 by_cases h:id∈zs
 ·rw[zW h]
  obtain⟨j,hj,e⟩:=xU h;exact zF9 hj (by rw[zQ,zR hj];exact e)
 ·rw[zX h]
  exact zD8 fun j hj e=>h (by rw[<-e,zQ,zR hj];simp)
theorem zy4(l:List Int)(x:Int):(l++[x]).Nodup↔l.Nodup/\x∉l:=by
 rw[yJ];constructor
 ·rintro⟨h1,_,h3⟩
  exact⟨h1,fun h=>h3 x h x (by simp) rfl⟩
 ·rintro⟨h1,h2⟩
  exact⟨h1,by simp,fun a ha b hb e=>h2 (by simp at hb;rw[<-hb,<-e];exact ha)⟩
end Go.Proofs.YtkchnomkiboihaaGreat
namespace Go.Proofs.YtkchnomkiboihaaGreat
open List renaming length→zo
open Go.RowKit
open Q
theorem ya7{R S:List RT}(h:S.map RT.key=R.map RT.key)(j:Nat):(S.getD j rt0).v=(R.getD j rt0).v/\(S.getD j rt0).ids=(R.getD j rt0).ids:=by
 have hl:S.length=R.length:=by simpa using congrArg zo h
 rcases Nat.lt_or_ge j R.length with hj|hj
 ·have e:(S.map RT.key)[j]? =(R.map RT.key)[j]? :=by rw[h]
  rw[yr,yr,zR (by omega),zR hj]at e;simp only[yG,xT,RT.key,Prod.mk.injEq]at e;simp only[zQ,zR hj,zR (show j<S.length by omega),yR];exact e
 ·have e1:R.getD j rt0=rt0:=by rw[zQ,yg hj];rfl
  have e2:S.getD j rt0=rt0:=by rw[zQ,yg (show S.length<=j by omega)];rfl
  rw[e1,e2];exact⟨rfl,rfl⟩
theorem z78{R S:List RT}(h:S.map RT.key=R.map RT.key):S.length=R.length:=by
 have:=congrArg zo h;simpa using this
theorem yx1{R S:List RT}(h:S.map RT.key=R.map RT.key)(k:Nat):zb0 S k=zb0 R k:=by
 have e:∀T:List RT,zb0 T k=((T.map RT.key).take k).flatMap (fun x=>x.2):=fun T=>by
  unfold zb0;rw[<-List.map_take,List.flatMap_map];rfl
 rw[e S,e R,h]
theorem zX0{n:Int}{zs os vs:List Int}{ko kv:Nat}{R S:List RT}(h:S.map RT.key=R.map RT.key)(k:Nat):zi4 n zs os vs ko kv S k↔zi4 n zs os vs ko kv R k:=by
 have e:=ya7 h;unfold zi4;constructor
 ·intro H j hj
  have:=H j hj;rw[(e j).1,(e j).2,(e (j - 1)).1]at this;exact this
 ·intro H j hj
  have:=H j hj;rw[(e j).1,(e j).2,(e (j - 1)).1];exact this
theorem zd5{n:Int}{zs os vs:List Int}{ko kv:Nat}{fine:Int}{R S:List RT}(L:List Int)(h:S.map RT.key=R.map RT.key):zc1 n zs os vs ko kv fine S L=zc1 n zs os vs ko kv fine R L:=by
 unfold zc1;rw[z78 h,yx1 h];by_cases hc:zd0 n zs os vs ko kv fine=true
 ·rw[z7 hc,z7 hc]
  by_cases hr:zi4 n zs os vs ko kv R R.length
  ·rw[z7 hr,z7 ((zX0 h _).2 hr)]
  ·rw[ye hr,ye (fun x=>hr ((zX0 h _).1 x))]
 ·rw[ye hc,ye hc]
theorem z05{R S:List RT}{b:Nat}(h:S.map RT.key=R.map RT.key)(hi:∀r∈R,r.ids≠[]/\r.ids.length<=b):∀s∈S,s.ids≠[]/\s.ids.length<=b:=fun s hs=>by
 have h1:s.key∈R.map RT.key:=by rw[<-h];exact List.mem_map_of_mem hs
 obtain⟨y,hy,e⟩:=yF.1 h1;have e2:y.ids=s.ids:=congrArg Prod.snd e;rw[<-e2];exact hi y hy
end Go.Proofs.YtkchnomkiboihaaGreat
namespace Go.Proofs.YtkchnomkiboihaaGreat
open Go.RowKit
open Q
def zm0(n:Int)(zs os vs:List Int)(ko kv:Nat)(r:RT):Int:=zq7 n zs (zd6 os ko r.ids) r.ids.length (zc4 vs kv r.v 1)
def zi3(n:Int)(zs os vs:List Int)(ko kv:Nat)(R:List RT)(z:Int):Nat->Int
 |0=>z
 |k+1=>zi3 n zs os vs ko kv R z k+zm0 n zs os vs ko kv (R.getD k rt0)
open Classical in
noncomputable def zo8(n:Int)(zs os vs:List Int)(ko kv:Nat)(fine:Int)(R:List RT)(L:List Int):Int:=
 if zc1 n zs os vs ko kv fine R L=0 then zi3 n zs os vs ko kv R (fine*L.length) R.length else -1
theorem y66{n:Int}{zs os vs:List Int}{ko kv:Nat}{fine:Int}{R:List RT}{k m:Nat}(hc:zd0 n zs os vs ko kv fine=true)(h:zi4 n zs os vs ko kv R m)(hk:k<m):0<=zm0 n zs os vs ko kv (R.getD k rt0)/\zm0 n zs os vs ko kv (R.getD k rt0)<=130000:=
 zu8 (zb2 hc).1 _ _ (zg3 (zf3 (zg8 (h k hk).2.2).1).2.2).1 _
theorem z59{n:Int}{zs os vs:List Int}{ko kv:Nat}{fine:Int}{R:List RT}{m:Nat}(hc:zd0 n zs os vs ko kv fine=true)(h:zi4 n zs os vs ko kv R m)(z:Int):∀k,k<=m->z<=zi3 n zs os vs ko kv R z k/\zi3 n zs os vs ko kv R z k<=z+130000*k
 |0,_=>by simp[zi3]
 |k+1,hk=>by
  have ih:=z59 hc h z k (by omega);have h1:=y66 hc h (show k<m by omega);simp only[zi3];omega
theorem y00{n:Int}{zs os vs:List Int}{ko kv:Nat}{R:List RT}:∀{k:Nat},k<=R.length->zi4 n zs os vs ko kv R k->k<=(zb0 R k).length
 |0,_,_=>xi _
 |k+1,hk,h=>by
  have ih:=y00 (k:=k) (by omega) (fun j hj=>h j (by omega));have h2:=(h k (by omega)).2.1;have h3:=xV.2 h2;rw[zf9 (by omega),xS];omega
theorem ze6{n:Int}{zs os vs:List Int}{ko kv:Nat}{fine:Int}{R:List RT}{L:List Int}(h:zc1 n zs os vs ko kv fine R L=0):R.length<=12/\L.length<=12/\0<=fine*L.length/\fine*L.length<=12000000:=by
 obtain⟨h1,h2,_,_,h5⟩:=zb7 h;have h6:=y00 (zT _) h2;have h7:=(zd9 (zb2 h1).2.1).1;obtain⟨_,_,_,_,h8,h9⟩:=zb2 h1;refine⟨by omega,by omega,Int.mul_nonneg h8 (by omega),?_⟩;have:=Int.mul_le_mul h9 (show(L.length:Int)<=12 by omega) (by omega) (by omega);omega
theorem zw9{n:Int}{zs os vs:List Int}{ko kv:Nat}{R S:List RT}(h:S.map RT.key=R.map RT.key)(z:Int):∀k,zi3 n zs os vs ko kv S z k=zi3 n zs os vs ko kv R z k
 |0=>rfl
 |k+1=>by
  simp only[zi3,zw9 h z k,zm0,(ya7 h k).1,(ya7 h k).2]
theorem zs5{n:Int}{zs os vs:List Int}{ko kv:Nat}{fine:Int}{R S:List RT}(L:List Int)(h:S.map RT.key=R.map RT.key):zo8 n zs os vs ko kv fine S L=zo8 n zs os vs ko kv fine R L:=by
 unfold zo8;rw[zd5 L h,z78 h,zw9 h]
end Go.Proofs.YtkchnomkiboihaaGreat
namespace Go.Proofs.YtkchnomkiboihaaGreat
open RowKit renaming Below→Za,Hid→Zb
open Value renaming slice→za,int→ze
open IntKind renaming i64→zd
open Obj renaming cells→zg
open Proofs.Tryz renaming prog→zh
open Go renaming World→zi
open List renaming length→zo
open Go.RowKit
open Q
def yA4(R:List RT)(id:Int)(e:Ending):Prop:=
 (∃k,k<R.length/\(∀j,j<k->zC0 (R.getD j rt0).ids (R.getD j rt0).ids.length id<0)/\0<=zC0 (R.getD k rt0).ids (R.getD k rt0).ids.length id∧
   e=.returned (.tuple #[.agg #[ze zd (R.getD k rt0).v,.slice (R.getD k rt0).a (R.getD k rt0).ids.length (R.getD k rt0).c],ze zd (zC0 (R.getD k rt0).ids (R.getD k rt0).ids.length id),.bool true]))∨
 ((∀j,j<R.length->zC0 (R.getD j rt0).ids (R.getD j rt0).ids.length id<0)/\e=.returned (.tuple #[.agg #[ze zd 0,za none 0 0],ze zd 0,.bool false]))
theorem zM3(ra la:Option Addr)(rc ln lc:Nat)(R:List RT)(id:Int)(w:zi)(hA:za9 w ra R)(hn:R.length<=1048576)(hl:∀j,j<R.length->(R.getD j rt0).ids.length<=1048576):
 Calls zh 143 #[.agg #[za ra R.length rc,za la ln lc],ze zd id] w fun e w'=>yA4 R id e/\Za w.heap.size w w':=by
 have HA:=za4 hA;have HL:Zb _:=hl;clear hA hl;obtain⟨n,HN⟩:=nmd R.length;rw[HN.X]at hn⊢;have G0:=za4 (zS w (zg #[za ra n rc,za la ln lc] 33));have B0:Zb (Za w.heap.size w (w.alloc (zg #[za ra n rc,za la ln lc] 33))):=zP _;go_enter Tryz.func143,Tryz.ntmps143;obtain⟨c0,c1⟩:=za1 G0.X
 go_wp2_with fail
 clear c0 c1;have G1:Zb (((w.alloc (zg #[za ra n rc,za la ln lc] 33)).alloc (zg #[ze zd 0,za none 0 0] 80)).heap[w.heap.size+1]? =some (zg #[ze zd 0,za none 0 0] 80 (0,0))):=xh _ _ _;have B1:Zb (Za w.heap.size w ((w.alloc (zg #[za ra n rc,za la ln lc] 33)).alloc (zg #[ze zd 0,za none 0 0] 80))):=B0.alloc B0.size _;generalize(w.alloc _).alloc _=W0 at*;go_loopw[13] (fun t wr=>∃k:Nat,k<=n/\t=ze zd k/\Za w.heap.size w wr/\wr.heap[w.heap.size+1]? =some (zg #[ze zd 0,za none 0 0] 80 (0,0))/\∀j,j<k->zC0 (R.getD j rt0).ids (R.getD j rt0).ids.length id<0) (fun t _=>n - (intOf t).toNat)
 case atStart=>exact⟨0,xi _,rfl,B1.X,G1.X,fun j h=>absurd h (Nat.not_lt_zero _)⟩
 case round=>
  clear G0 B0 G1 B1;obtain⟨k,hk,rfl,hb,hg,hj⟩:=hrel;have B2:Zb _:=hb;have G2:Zb _:=hg;have HJ:Zb _:=hj;clear hb hg hj;by_cases ah:k<n
  ·have cL:(k:Int)<n:=by omega
   have dt:k<R.length:=by rw[HN.X];exact ah
   obtain⟨b,off,e,c1,c2,i3⟩:=(HA.below B2.X) k dt;have dh:=HL.X k dt;have sB:Zb (0<=zC0 (R.getD k rt0).ids (R.getD k rt0).ids.length id->yA4 R id (.returned (.tuple #[.agg #[ze zd (R.getD k rt0).v,.slice (R.getD k rt0).a (R.getD k rt0).ids.length (R.getD k rt0).c],ze zd (zC0 (R.getD k rt0).ids (R.getD k rt0).ids.length id),.bool true]))):=fun h=>.inl ⟨k,dt,HJ.X,h,rfl⟩;have bA:Zb (zC0 (R.getD k rt0).ids (R.getD k rt0).ids.length id<0->∀j,j<k+1->zC0 (R.getD j rt0).ids (R.getD j rt0).ids.length id<0):=fun h j hj=>by
    rcases Nat.lt_succ_iff_lt_or_eq.1 hj with h1|h1
    ·exact HJ.X j h1
    ·rw[h1];exact h
   subst e;generalize R.getD k rt0=r at*;obtain⟨rv,iA,ay,dE⟩:=r;simp only at c1 c2 i3 dh sB bA;have I3:=za4 i3;clear i3;obtain⟨x,HX⟩:=nmd (zC0 ay ay.length id);have C:=ya2 iA ay.length dE id ay (wr.alloc (zg #[ze zd rv,za iA ay.length dE] 80)) (I3.below (zP _)) (zT _) (by omega);rw[HX.X]at C sB bA;have B3:Zb (Za w.heap.size w (wr.alloc (zg #[ze zd rv,za iA ay.length dE] 80))):=B2.alloc B2.size _;have G3:Zb ((wr.alloc (zg #[ze zd rv,za iA ay.length dE] 80)).heap[w.heap.size+1]? =some (zg #[ze zd 0,za none 0 0] 80 (0,0))):=(xg _ _ (za2 G2.X)).trans G2.X;obtain⟨z0,z1⟩:=za1 G3.X;have zf:=fun i=>yZ _ _ i _ _ G3.X;by_cases hx:0<=x
   ·go_wp2_with(first
     |(go_at_call 168
       go_must(refine C.mono ?_)
       rintro e w' ⟨rfl,rfl⟩))
    refine xe (v:=.tuple #[.agg #[ze zd rv,za iA ay.length dE],ze zd x,.bool true]) (by simp[results,Tryz.results143,go_sem,z0,z1]) rfl ⟨sB.X hx,?_⟩
    repeat(first|with_reducible exact B3.X|refine xq ?_ (by simp<;>omega) _)
   ·go_wp2_with(first
     |(go_at_call 168
       go_must(refine C.mono ?_)
       rintro e w' ⟨rfl,rfl⟩))
    clear c1 c2 z0 z1 zf;go_roundw
    case rel=>exact⟨k+1,by omega,by first|rfl|go_num,B3.X,G3.X,bA.X (by omega)⟩
    case measure=>simp[intOf];omega
  ·have cL:k=n:=by omega
   subst cL;obtain⟨z0,z1⟩:=za1 G2.X;have zf:=fun i=>yZ _ _ i _ _ G2.X;go_wp2;refine xe (v:=.tuple #[.agg #[ze zd 0,za none 0 0],ze zd 0,.bool false]) (by simp[results,Tryz.results143,go_sem,z0,z1]) rfl ⟨.inr ⟨by rw[HN.X];exact HJ.X,rfl⟩,?_⟩
   repeat(first|with_reducible exact B2.X|refine xq ?_ (by simp<;>omega) _)
structure GQ(w W:zi)(cs ps:Array Value):Prop where
 b:Za w.heap.size w W
 c:W.heap[w.heap.size]? =some (.cells cs 30 (0,0))
 p:W.heap[w.heap.size+1]? =some (.cells ps 33 (0,0))
 o:W.heap[w.heap.size+2]? =some (zg #[za none 0 0,za none 0 0] 33 (0,0))
theorem GQ.below{w W W':zi}{cs ps:Array Value}(h:GQ w W cs ps)(hb:Za W.heap.size W W'):GQ w W' cs ps:=
 ⟨h.b.trans (hb.mono h.b.size),za0 hb (za2 h.c) h.c,za0 hb (za2 h.p) h.p,za0 hb (za2 h.o) h.o⟩
theorem GQ.size{w W:zi}{cs ps:Array Value}(h:GQ w W cs ps):w.heap.size+3<=W.heap.size:=za2 h.o
theorem GQ.set{w W:zi}{cs ps:Array Value}(h:GQ w W cs ps){k i:Nat}{v:Value}(hk:w.heap.size+3<=k):GQ w (W.setCell ⟨k,i,none⟩ v) cs ps:=
 ⟨h.b.setCell (by simp;omega) _,za8 h.c (by omega),za8 h.p (by omega),za8 h.o (by omega)⟩
def zc3(w:zi)(ra la:Option Addr)(rn ln:Nat)(R:List RT)(L:List Int):Prop:=R.length=rn/\L.length=ln/\za9 w ra R/\za3 w la L/\((ra=none/\rn=0)∨∃b off,ra=some ⟨b,off,none⟩)/\((la=none/\ln=0)∨∃b off,la=some ⟨b,off,none⟩)/\(∀r∈R,r.ids.length<=r.c)
theorem zc3.below{w w':zi}{ra la:Option Addr}{rn ln:Nat}{R:List RT}{L:List Int}(h:zc3 w ra la rn ln R L)(hb:Za w.heap.size w w'):zc3 w' ra la rn ln R L:=
 ⟨h.1,h.2.1,h.2.2.1.below hb,h.2.2.2.1.below hb,h.2.2.2.2⟩
def Off(k:Nat)(ra la:Option Addr)(R:List RT):Prop:=(∀b off,ra=some ⟨b,off,none⟩->b≠k)/\(∀b off,la=some ⟨b,off,none⟩->b≠k)/\∀r∈R,∀b off,r.a=some ⟨b,off,none⟩->b≠k
theorem z33{w:zi}{k i b o:Nat}{u v:Value}(h:w.cell? ⟨b,o,none⟩=some v)(hb:b≠k):(w.setCell ⟨k,i,none⟩ u).cell? ⟨b,o,none⟩=some v:=za5 h hb
def zi8(k:Nat)(ra la:Option Addr)(R:List RT)(L:List Int):Prop:=(R≠[]->∀b off,ra=some ⟨b,off,none⟩->b≠k)/\(L≠[]->∀b off,la=some ⟨b,off,none⟩->b≠k)/\∀r∈R,r.ids≠[]->∀b off,r.a=some ⟨b,off,none⟩->b≠k
theorem zs1{α:Type}{l:List α}{j:Nat}(h:j<l.length):l≠[]:=fun e=>by subst e;exact absurd h (Nat.not_lt_zero _)
theorem ya6{w:zi}{k i:Nat}{u:Value}{a:Option Addr}{xs:List Int}(h:za3 w a xs)(hb:xs≠[]->∀b off,a=some ⟨b,off,none⟩->b≠k):za3 (w.setCell ⟨k,i,none⟩ u) a xs:=fun j hj=>by
 obtain⟨b,off,e,h1⟩:=h j hj;exact⟨b,off,e,z33 h1 (hb (zs1 hj) b off e)⟩
theorem zc3.offL{w:zi}{k i:Nat}{u:Value}{ra la:Option Addr}{rn ln:Nat}{R:List RT}{L:List Int}(h:zc3 w ra la rn ln R L)(ho:zi8 k ra la R L):zc3 (w.setCell ⟨k,i,none⟩ u) ra la rn ln R L:=by
 refine⟨h.1,h.2.1,fun j hj=> ?_,ya6 h.2.2.2.1 ho.2.1,h.2.2.2.2⟩;obtain⟨b,off,e,h1,h2,h3⟩:=h.2.2.1 j hj;have hm:R.getD j rt0∈R:=by rw[zQ,zR hj];simp
 have aq:=zs1 hj;exact⟨b,off,e,z33 h1 (ho.1 aq b off e),z33 h2 (ho.1 aq b off e),ya6 h3 (ho.2.2 _ hm)⟩
theorem ym7{w:zi}{k:Nat}{a:Option Addr}{xs:List Int}(h:za3 w a xs)(hk:w.heap.size<=k)(aq:xs≠[]):∀b off,a=some ⟨b,off,none⟩->b≠k:=fun b off e=>by
 obtain⟨b2,cW,e2,h1⟩:=h 0 (xV.2 aq);rw[e]at e2
 injection e2 with e2
 injection e2 with e2 _ _
 have:=zV h1;simp only at this;omega
theorem zc3.far{w:zi}{k:Nat}{ra la:Option Addr}{rn ln:Nat}{R:List RT}{L:List Int}(h:zc3 w ra la rn ln R L)(hk:w.heap.size<=k):zi8 k ra la R L:=by
 refine⟨fun aq b off e=> ?_,ym7 h.2.2.2.1 hk,fun r hr aq=> ?_⟩
 ·obtain⟨b2,cW,e2,h1,_⟩:=h.2.2.1 0 (xV.2 aq)
  rw[e]at e2
  injection e2 with e2
  injection e2 with e2 _ _
  have:=zV h1;simp only at this;omega
 ·obtain⟨j,hj,rfl⟩:∃j,j<R.length/\R.getD j rt0=r:=by
   obtain⟨j,hj,e⟩:=xU hr;exact⟨j,hj,by rw[zQ,zR hj,<-e];rfl⟩
  obtain⟨_,_,_,_,_,h3⟩:=h.2.2.1 j hj;exact ym7 h3 hk aq
theorem y88{R S:List RT}(h:S.map RT.key=R.map RT.key)(j:Nat):(S.getD j rt0).v=(R.getD j rt0).v/\(S.getD j rt0).ids=(R.getD j rt0).ids:=by
 have hl:S.length=R.length:=by simpa using congrArg zo h
 rcases Nat.lt_or_ge j R.length with hj|hj
 ·have e:(S.map RT.key)[j]? =(R.map RT.key)[j]? :=by rw[h]
  rw[yr,yr,zR (by omega),zR hj]at e;simp only[yG,xT,RT.key,Prod.mk.injEq]at e;simp only[zQ,zR hj,zR (show j<S.length by omega),yR];exact e
 ·have e1:R.getD j rt0=rt0:=by rw[zQ,yg hj];rfl
  have e2:S.getD j rt0=rt0:=by rw[zQ,yg (show S.length<=j by omega)];rfl
  rw[e1,e2];exact⟨rfl,rfl⟩
theorem zO5(ra sa la ma:Option Addr)(rc sc n lc mc m:Nat)(R S:List RT)(L:List Int)(w:zi)(hA:za9 w ra R)(hB:za9 w sa S)(hk:S.map RT.key=R.map RT.key)(hR:R.length=n)(hn:n<=1048576)(hi:∀r∈R,r.ids.length<=1000)(hL:za3 w la L)(hM:za3 w ma L)(hm:L.length=m)(dh:m<=1048576):
 Calls zh 10 #[.agg #[za ra n rc,za la m lc],.agg #[za sa n sc,za ma m mc]] w fun e w'=>e=.returned (.bool true)/\Za w.heap.size w w':=by
 have HA:=za4 hA;have HB:=za4 hB;have HL:=za4 hL;have HM:=za4 hM;have HK:Zb _:=hk;have HR:=za4 hR;have HS:Zb (S.length=n):=by show _=_;rw[<-hR];simpa using congrArg zo hk
 have HI:Zb _:=hi;have Ip:=za4 hm;have B0:Zb (Za w.heap.size w ((w.alloc (zg #[za ra n rc,za la m lc] 33)).alloc (zg #[za sa n sc,za ma m mc] 33))):=(zP _).alloc (by simp) _;have G0:Zb (((w.alloc (zg #[za ra n rc,za la m lc] 33)).alloc (zg #[za sa n sc,za ma m mc] 33)).heap[w.heap.size]? =some (zg #[za ra n rc,za la m lc] 33 (0,0))):=xm _ _ _;have G1:Zb (((w.alloc (zg #[za ra n rc,za la m lc] 33)).alloc (zg #[za sa n sc,za ma m mc] 33)).heap[w.heap.size+1]? =some (zg #[za sa n sc,za ma m mc] 33 (0,0))):=xh _ _ _;clear hA hB hL hM hk hR hi hm;have SI:Zb (∀W,za3 W la L->za3 W ma L->Calls zh 9 #[za la m lc,za ma m mc] W fun e w'=>e=.returned (.bool true)/\Za W.heap.size W w'):=fun W h1 h2=>by
  have:=zr9 la ma lc mc L L W h1 h2 (by rw[Ip.X];omega);rw[show decide (L=L)=true from zW rfl,Ip.X]at this;exact this
 obtain⟨c0,c1⟩:=za1 G0.X;obtain⟨d0,d1⟩:=za1 G1.X;go_enter Tryz.func10,Tryz.ntmps10
 go_wp2_with fail
 clear c0 c1 d0 d1;generalize(w.alloc _).alloc _=W0 at*;refine(SI.X W0 (HL.below B0.X) (HM.below B0.X)).mono ?_;rintro e w1 ⟨rfl,hb⟩;have B1:Zb _:=B0.trans (hb.mono B0.size);have F0:Zb _:=za0 hb (za2 G0.X) G0.X;have F1:Zb _:=za0 hb (za2 G1.X) G1.X;clear hb B0 G0 G1
 go_wp2_with fail
 go_loopw[5] (fun ti wr=>∃i:Nat,i<=n/\ti=ze zd i/\Za w1.heap.size w1 wr) (fun ti _=>n - (intOf ti).toNat)
 case atStart=>exact⟨0,xi _,rfl,y5 _ _⟩
 case round=>
  obtain⟨i,hi,rfl,hb⟩:=hrel;have BW:Zb _:=hb;have C1:Zb _:=B1.trans (hb.mono B1.size);clear hb;obtain⟨c0,c1⟩:=za1 (za0 BW.X (za2 F0.X) F0.X);obtain⟨d0,d1⟩:=za1 (za0 BW.X (za2 F1.X) F1.X);by_cases ah:i<n
  ·obtain⟨b1,o1,e1,k1,k2,i1⟩:=(HA.below C1.X) i (by rw[HR.X];exact ah)
   obtain⟨b2,o2,e2,j1,j2,i2⟩:=(HB.below C1.X) i (by rw[HS.X];exact ah);have dg:=y88 HK.X i;have tr:(R.getD i rt0).ids.length<=1000:=HI.X _ (by
    have:i<R.length:=by rw[HR.X];exact ah
    rw[zQ,zR this];simp)
   subst e1 e2;generalize R.getD i rt0=r at*;generalize S.getD i rt0=s at*;obtain⟨rv,iA,ay,dE⟩:=r;obtain⟨sv,JH,pK,Iw⟩:=s;simp only at dg k1 k2 i1 j1 j2 i2 tr;obtain⟨rfl,rfl⟩:=dg;have ER:Zb (∀W,Za wr.heap.size wr W->Calls zh 45 #[.agg #[ze zd sv,za iA pK.length dE],.agg #[ze zd sv,za JH pK.length Iw]] W fun e w'=>e=.returned (.bool true)/\Za W.heap.size W w'):=fun W hb=>zJ8 sv iA JH dE Iw pK W (i1.below hb) (i2.below hb) (by omega)
   clear i1 i2;have be:(i:Int)<n:=by omega
   have z1:=fun s:Kin wr=>s.cell k1;have z2:=fun s:Kin wr=>s.cell k2;have z3:=fun s:Kin wr=>s.cell j1;have z4:=fun s:Kin wr=>s.cell j2;have z5:=fun s:Kin wr=>s.cell c0;have z6:=fun s:Kin wr=>s.cell d0;have aV:=Kin.there wr;generalize pK.length=m at*
   go_wp2_with fail
   refine zb1 (by kernel_rfl) (by kernel_rfl) ?_
   repeat(go_big_quiet_step ((go_at_call 45;with_reducible exact Kin.call (ER.X _ (Kin.below _)))))
   refine xA ?_;rintro _ ⟨s1,rfl⟩;clear z1 z2 z3 z4 z5 z6 aV;go_wp2;go_roundw
   case rel=>exact⟨i+1,by omega,by first|rfl|go_num,BW.trans (s1.below.mono BW.size)⟩
   case measure=>simp[intOf];omega
  ·have be:¬((i:Int)<n):=by omega
   go_wp2;go_ret;exact⟨rfl,C1.X⟩
