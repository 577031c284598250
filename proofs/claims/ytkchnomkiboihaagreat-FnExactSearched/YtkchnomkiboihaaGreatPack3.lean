import Derived.Test.YtkchnomkiboihaaGreatPack1
set_option linter.unusedSimpArgs false
set_option maxHeartbeats 2000000
namespace Go.Proofs.YtkchnomkiboihaaGreat
theorem xE:type_of% @List.set_cons_succ:=@List.set_cons_succ
theorem xF:type_of% @List.length_append:=@List.length_append
theorem xG:type_of% @Option.some.injEq:=@Option.some.injEq
theorem xH:type_of% @List.map_append:=@List.map_append
theorem xI:type_of% @Go.Proofs.Tryz.underlying31:=@Go.Proofs.Tryz.underlying31
theorem xJ:type_of% @List.append_nil:=@List.append_nil
theorem xK:type_of% @List.getElem_of_mem:=@List.getElem_of_mem
theorem xL:type_of% @List.length_pos_iff:=@List.length_pos_iff
theorem xM:type_of% @Go.IntWalk.i64_in:=@Go.IntWalk.i64_in
theorem xN:type_of% @List.flatMap_append:=@List.flatMap_append
theorem xO:type_of% @List.pairwise_append:=@List.pairwise_append
theorem xP:type_of% @List.mem_map_of_mem:=@List.mem_map_of_mem
theorem xQ:type_of% @List.mem_of_find?_eq_some:=@List.mem_of_find?_eq_some
open Value renaming slice→za,int→zc
open IntKind renaming i64→zb
open Go.RowKit
open Q
structure RT where
 v:Int
 a:Option Addr
 ids:List Int
 c:Nat
def rt0:RT:=⟨0,none,[],0⟩
instance:Inhabited RT:=⟨rt0⟩
def RT.key(r:RT):Int×List Int:=(r.v,r.ids)
def zq8(r:RT):List Value:=[zc zb r.v,za r.a r.ids.length r.c]
def zg5(R:List RT):List Value:=R.flatMap zq8
theorem zj9(r:RT)(R:List RT):zg5 (r::R)=zq8 r++zg5 R:=by simp[zg5]
theorem zk1(R S:List RT):zg5 (R++S)=zg5 R++zg5 S:=by simp[zg5]
theorem ze5(R:List RT):(zg5 R).length=R.length*2:=by
 induction R with
 |nil=>rfl
 |cons r R ih=>rw[zj9,xF,ih];simp[zq8];omega
theorem zp0:∀(R:List RT) (j:Nat),j<R.length->(zg5 R)[j*2]? =some (zc zb (R.getD j rt0).v)/\(zg5 R)[j*2+1]? =some (.slice (R.getD j rt0).a (R.getD j rt0).ids.length (R.getD j rt0).c)
 |[],j,h=>by simp at h
 |r::R,0,_=>by rw[zj9];exact⟨rfl,rfl⟩
 |r::R,j+1,h=>by
  have ih:=zp0 R j (by simpa using h);rw[zj9];have e1:(j+1)*2=j*2+2:=by omega
  have e2:(j+1)*2+1=j*2+1+2:=by omega
  rw[e2,e1];simpa[zq8]using ih
theorem yk4:∀(R:List RT) (j:Nat) (r:RT),j<R.length->((zg5 R).set (j*2) (zc zb r.v)).set (j*2+1) (za r.a r.ids.length r.c)=zg5 (R.set j r)
 |[],j,r,h=>by simp at h
 |x::R,0,r,_=>by rw[zL,zj9,zj9];rfl
 |x::R,j+1,r,h=>by
  have ih:=yk4 R j r (by simpa using h);rw[xE,zj9,zj9,<-ih];have e1:(j+1)*2=j*2+2:=by omega
  have e2:(j+1)*2+1=j*2+1+2:=by omega
  rw[e2,e1];rfl
def za9(w:World)(ra:Option Addr)(R:List RT):Prop:=∀j,j<R.length->∃b off,ra=some ⟨b,off,none⟩/\w.cell? ⟨b,off+j*2,none⟩=some (zc zb (R.getD j rt0).v)/\w.cell? ⟨b,off+j*2+1,none⟩=some (.slice (R.getD j rt0).a (R.getD j rt0).ids.length (R.getD j rt0).c)/\za3 w (R.getD j rt0).a (R.getD j rt0).ids
theorem za9.below{w w':World}{ra:Option Addr}{R:List RT}(h:za9 w ra R)(hb:Below w.heap.size w w'):za9 w' ra R:=fun j hj=>by
 obtain⟨b,off,e,h1,h2,h3⟩:=h j hj;exact⟨b,off,e,(hb.cell (p:=⟨b,off+j*2,none⟩) (zT h1)).trans h1,(hb.cell (p:=⟨b,off+j*2+1,none⟩) (zT h2)).trans h2,h3.below hb⟩
theorem za9.of_row{w:World}{g:Nat}{T:TypeId}{R:List RT}(h:w.heap[g]? =some (.cells (zg5 R).toArray T (0,0)))(hi:∀r∈R,za3 w r.a r.ids):za9 w (some ⟨g,0,none⟩) R:=fun j hj=>by
 obtain⟨h1,h2⟩:=zp0 R j hj;refine⟨g,0,rfl,?_,?_,hi _ (by rw[zM,zO hj];simp)⟩
 ·rw[zR _ _ _ _ _ _ h,z6];simpa using h1
 ·rw[zR _ _ _ _ _ _ h,z6];simpa using h2
def szR(R:List RT)(left:Int):Nat->Int
 |0=>left
 |k+1=>if szR R left k<0 then -1 else if szR R left k<((R.getD k rt0).ids.length:Int)then -1 else szR R left k - (R.getD k rt0).ids.length
theorem zU0(R:List RT)(left:Int)(h:0<=left):∀k,szR R left k<=left/\ -1<=szR R left k
 |0=>⟨Int.le_refl _,by simp[szR];omega⟩
 |k+1=>by
  have ih:=zU0 R left h k;simp only[szR];split
  ·omega
  ·split
   ·omega
   ·omega
theorem y09(R:List RT)(left:Int)(h:0<=left):∀k j,j<k->0<=szR R left k->((R.getD j rt0).ids.length:Int)<=left
 |0,j,hj,_=>by omega
 |k+1,j,hj,hs=>by
  have hle:=zU0 R left h k;simp only[szR]at hs;by_cases c1:szR R left k<0
  ·rw[zV c1]at hs;omega
  ·rw[zW c1]at hs
   by_cases c2:szR R left k<((R.getD k rt0).ids.length:Int)
   ·rw[zV c2]at hs;omega
   ·by_cases e:j=k
    ·subst e;omega
    ·exact y09 R left h k j (by omega) (by omega)
end Go.Proofs.YtkchnomkiboihaaGreat
namespace Go.Proofs.YtkchnomkiboihaaGreat
open Go.RowKit
open Q
def za8(R:List RT)(k:Nat):List Int:=(R.take k).flatMap RT.ids
theorem zi4(R:List RT):za8 R 0=[]:=by simp[za8]
theorem zf4{R:List RT}{k:Nat}(h:k<R.length):za8 R (k+1)=za8 R k++(R.getD k rt0).ids:=by
 unfold za8;rw[yz,xN,zM,zO h];simp
theorem zC2(R:List RT):∀{k m:Nat},k<=m->m<=R.length->(za8 R k).length<=(za8 R m).length
 |k,0,h,_=>by have:k=0:=by omega
              subst this;exact zQ _
 |k,m+1,h,hm=>by
  by_cases e:k=m+1
  ·rw[e];exact zQ _
  ·have:=zC2 R (k:=k) (m:=m) (by omega) (by omega)
   rw[zf4 (by omega),xF];omega
theorem zM0{R:List RT}{k j:Nat}(h:k<R.length)(hj:j<=(R.getD k rt0).ids.length):(za8 R k++(R.getD k rt0).ids.take j).length<=(za8 R R.length).length:=by
 have:=zC2 R (k:=k+1) (m:=R.length) (by omega) (zQ _);rw[zf4 h,xF]at this;rw[xF,zZ];omega
def zi6(n:Int)(zs os vs:List Int)(ko kv:Nat)(R:List RT)(k:Nat):Prop:=∀j,j<k->(0<j->(R.getD (j - 1) rt0).v<(R.getD j rt0).v)/\(R.getD j rt0).ids≠[]/\codeV true n zs os vs ko kv (R.getD j rt0).v (R.getD j rt0).ids=0
theorem zi6.zero(n:Int)(zs os vs:List Int)(ko kv:Nat)(R:List RT):zi6 n zs os vs ko kv R 0:=fun j hj=>by omega
theorem zi6.step{n:Int}{zs os vs:List Int}{ko kv:Nat}{R:List RT}{k:Nat}(h:zi6 n zs os vs ko kv R k)(h1:0<k->(R.getD (k - 1) rt0).v<(R.getD k rt0).v)(h2:(R.getD k rt0).ids≠[])(h3:codeV true n zs os vs ko kv (R.getD k rt0).v (R.getD k rt0).ids=0):zi6 n zs os vs ko kv R (k+1):=fun j hj=>by
 by_cases e:j=k
 ·subst e;exact⟨h1,h2,h3⟩
 ·exact h j (by omega)
def yh5(fl L:List Int):Prop:=fl.Nodup/\∀x∈L,x∉fl
def zg4(os:List Int)(ko:Nat)(L:List Int)(k:Nat):Prop:=∀j,j<k->zm0 os ko (L.getD j 0)=true/\(0<j->L.getD (j - 1) 0<L.getD j 0)
theorem zg4.zero(os:List Int)(ko:Nat)(L:List Int):zg4 os ko L 0:=fun j hj=>by omega
theorem zg4.step{os:List Int}{ko:Nat}{L:List Int}{k:Nat}(h:zg4 os ko L k)(h1:zm0 os ko (L.getD k 0)=true)(h2:0<k->L.getD (k - 1) 0<L.getD k 0):zg4 os ko L (k+1):=fun j hj=>by
 by_cases e:j=k
 ·subst e;exact⟨h1,h2⟩
 ·exact h j (by omega)
open Classical in
noncomputable def zc3(n:Int)(zs os vs:List Int)(ko kv:Nat)(fine:Int)(R:List RT)(L:List Int):Int:=
 if zc8 n zs os vs ko kv fine=true then
  if zi6 n zs os vs ko kv R R.length then
   if yh5 (za8 R R.length) L then
    if zg4 os ko L L.length/\(za8 R R.length).length+L.length=ko then 0 else 4
   else 3
  else 2
 else 1
theorem yr9{n:Int}{zs os vs:List Int}{ko kv:Nat}{fine:Int}{R:List RT}{L:List Int}(h:zc8 n zs os vs ko kv fine=false):zc3 n zs os vs ko kv fine R L=1:=by
 unfold zc3;rw[zW (by rw[h];simp)]
theorem zO0{n:Int}{zs os vs:List Int}{ko kv:Nat}{fine:Int}{R:List RT}{L:List Int}(h:zc8 n zs os vs ko kv fine=true)(h2:¬zi6 n zs os vs ko kv R R.length):zc3 n zs os vs ko kv fine R L=2:=by
 unfold zc3;rw[zV h,zW h2]
theorem yz1{n:Int}{zs os vs:List Int}{ko kv:Nat}{fine:Int}{R:List RT}{L:List Int}(h:zc8 n zs os vs ko kv fine=true)(h2:zi6 n zs os vs ko kv R R.length)(h3:¬yh5 (za8 R R.length) L):zc3 n zs os vs ko kv fine R L=3:=by
 unfold zc3;rw[zV h,zV h2,zW h3]
theorem zP2{n:Int}{zs os vs:List Int}{ko kv:Nat}{fine:Int}{R:List RT}{L:List Int}(h:zc8 n zs os vs ko kv fine=true)(h2:zi6 n zs os vs ko kv R R.length)(h3:yh5 (za8 R R.length) L)(h4:¬(zg4 os ko L L.length/\(za8 R R.length).length+L.length=ko)):zc3 n zs os vs ko kv fine R L=4:=by
 unfold zc3;rw[zV h,zV h2,zV h3,zW h4]
theorem zN6{n:Int}{zs os vs:List Int}{ko kv:Nat}{fine:Int}{R:List RT}{L:List Int}(h:zc8 n zs os vs ko kv fine=true)(h2:zi6 n zs os vs ko kv R R.length)(h3:yh5 (za8 R R.length) L)(h4:zg4 os ko L L.length)(h5:(za8 R R.length).length+L.length=ko):zc3 n zs os vs ko kv fine R L=0:=by
 unfold zc3;rw[zV h,zV h2,zV h3,zV ⟨h4,h5⟩]
theorem zb5{n:Int}{zs os vs:List Int}{ko kv:Nat}{fine:Int}{R:List RT}{L:List Int}(h:zc3 n zs os vs ko kv fine R L=0):zc8 n zs os vs ko kv fine=true/\zi6 n zs os vs ko kv R R.length/\yh5 (za8 R R.length) L/\zg4 os ko L L.length/\(za8 R R.length).length+L.length=ko:=by
 unfold zc3 at h;by_cases h1:zc8 n zs os vs ko kv fine=true
 ·rw[zV h1]at h
  by_cases h2:zi6 n zs os vs ko kv R R.length
  ·rw[zV h2]at h
   by_cases h3:yh5 (za8 R R.length) L
   ·rw[zV h3]at h
    by_cases h4:zg4 os ko L L.length/\(za8 R R.length).length+L.length=ko
    ·exact⟨h1,h2,h3,h4⟩
    ·rw[zW h4]at h;cases h
   ·rw[zW h3]at h;cases h
  ·rw[zW h2]at h;cases h
 ·rw[zW h1]at h;cases h
theorem yF3{n:Int}{zs os vs:List Int}{ko kv:Nat}{fine veh:Int}{ids:List Int}(hc:zc8 n zs os vs ko kv fine=true)(h:codeV true n zs os vs ko kv veh ids=0):0<veh:=by
 have h5:=(zf5 (zg6 h).1).2.1;have hv:=(zb3 hc).2.2.1;unfold fnd5T at h5;cases hf:ya9 vs kv veh with
 |none=>rw[hf]at h5;cases h5
 |some i=>
  unfold ya9 at hf;have h1:=List.find?_some hf;have h2:i<kv:=by simpa using xQ hf
  have h3:=((zf6 hv).2 i h2).1;simp at h1;unfold zM7 inB at h3;simp at h3;omega
theorem yB9{n:Int}{zs os vs:List Int}{ko kv:Nat}{fine id:Int}(hc:zc8 n zs os vs ko kv fine=true)(h:zm0 os ko id=true):0<id:=by
 have hv:=(zb3 hc).2.1;unfold zm0 at h;cases hf:zS7 os ko id with
 |none=>rw[hf]at h;cases h
 |some i=>
  unfold zS7 at hf;have h1:=List.find?_some hf;have h2:i<ko:=by simpa using xQ hf
  have h3:=((zd9 hv).2 i h2).1;simp at h1;unfold zI7 inB at h3;simp at h3;omega
def yo2(R:List RT):Nat->Int
 |0=>0
 |k+1=>(R.getD k rt0).v
def yo9(L:List Int):Nat->Int
 |0=>0
 |k+1=>L.getD k 0
theorem ym8{n:Int}{zs os vs:List Int}{ko kv:Nat}{fine:Int}{R:List RT}{k:Nat}(hc:zc8 n zs os vs ko kv fine=true)(h:codeV true n zs os vs ko kv (R.getD k rt0).v (R.getD k rt0).ids=0):(0<k->(R.getD (k - 1) rt0).v<(R.getD k rt0).v)↔yo2 R k<(R.getD k rt0).v:=by
 cases k with
 |zero=>exact⟨fun _=>yF3 hc h,fun _ h=>by omega⟩
 |succ k=>exact⟨fun h=>h (by omega),fun h _=>h⟩
theorem yl6{n:Int}{zs os vs:List Int}{ko kv:Nat}{fine:Int}{L:List Int}{k:Nat}(hc:zc8 n zs os vs ko kv fine=true)(h:zm0 os ko (L.getD k 0)=true):(0<k->L.getD (k - 1) 0<L.getD k 0)↔yo9 L k<L.getD k 0:=by
 cases k with
 |zero=>exact⟨fun _=>yB9 hc h,fun _ h=>by omega⟩
 |succ k=>exact⟨fun h=>h (by omega),fun h _=>h⟩
theorem zt3(zs:List Int)(id:Int):zx5 zs zs.length id=decide (id∈zs):=by
 by_cases h:id∈zs
 ·rw[zS h]
  obtain⟨j,hj,e⟩:=xK h;exact zH4 hj (by rw[zM,zO hj];exact e)
 ·rw[zU h]
  exact zC9 fun j hj e=>h (by rw[<-e,zM,zO hj];simp)
theorem z00(l:List Int)(x:Int):(l++[x]).Nodup↔l.Nodup/\x∉l:=by
 rw[yB];constructor
 ·rintro⟨h1,_,h3⟩
  exact⟨h1,fun h=>h3 x h x (by simp) rfl⟩
 ·rintro⟨h1,h2⟩
  exact⟨h1,by simp,fun a ha b hb e=>h2 (by simp at hb;rw[<-hb,<-e];exact ha)⟩
end Go.Proofs.YtkchnomkiboihaaGreat
namespace Go.Proofs.YtkchnomkiboihaaGreat
open Value renaming slice→za,int→zc
open IntKind renaming i64→zb
open Obj renaming cells→zd
open Proofs.Tryz renaming prog→ze
open Go renaming World→zg
open List renaming length→zj,replicate→zn
open Go.RowKit
open Q
def szRS(R:List RT)(left:Int):Int:=if left<(R.length:Int)then -1 else szR R (left - R.length) R.length
def yG4(R:List RT)(ln:Nat)(left:Int):Int:=if szRS R left<0 then -1 else if szRS R left<(ln:Int)then -1 else szRS R left - ln
theorem yD1(R:List RT)(left:Int){k:Nat}(h:szR R left k= -1):szR R left (k+1)= -1:=by
 have e:szR R left (k+1)=if szR R left k<0 then -1 else if szR R left k<((R.getD k rt0).ids.length:Int)then -1 else szR R left k - (R.getD k rt0).ids.length:=rfl
 rw[e,h,zV (by omega)]
theorem zW3(R:List RT)(left:Int)(k:Nat)(h:szR R left k= -1):∀m,szR R left (k+m)= -1
 |0=>h
 |m+1=>yD1 R left (zW3 R left k h m)
theorem y53(R:List RT)(left:Int){k n:Nat}(h:k<=n)(hk:szR R left k= -1):szR R left n= -1∨k=n:=by
 rcases Nat.lt_or_ge k n with h'|h'
 ·left
  have:=zW3 R left k hk (n - k)
  rwa [show k+(n - k)=n by omega]at this
 ·exact .inr (by omega)
theorem zp2:(Tryz.prog.info? 80).map (fun i=>(i.zero,i.size,i.bytes))=some (some (.agg #[zc zb 0,za none 0 0]),2,32):=by kernel_rfl
theorem yB8(n:Nat):madeCells (Value.agg #[zc zb 0,za none 0 0]).cells (n*2)=(zg5 (zn n rt0)).toArray:=by
 apply Array.ext
 ·simp[madeCells,ze5]
 ·intro i h1 h2
  have hi:i<n*2:=by simpa[madeCells]using h1
  obtain⟨j,hj⟩:∃j,j=i / 2:=⟨_,rfl⟩;have hjn:j<(zn n rt0).length:=by simp;omega
  obtain⟨g1,g2⟩:=zp0 (zn n rt0) j hjn;have hd:(zn n rt0).getD j rt0=rt0:=by simp only[zM];rw[List.getElem?_replicate];split<;>rfl
  rw[hd]at g1 g2;simp only[madeCells,Value.cells,Array.getElem_map,Array.getElem_range,List.getElem_toArray];rcases Nat.mod_two_eq_zero_or_one i with h|h
  ·have e:i=j*2:=by omega
   subst e;have:=List.getElem?_eq_some_iff.1 g1;rw[this.2];show(#[zc zb 0,za none 0 0])[(j*2) % 2]! =_;rw[h];rfl
  ·have e:i=j*2+1:=by omega
   subst e;have:=List.getElem?_eq_some_iff.1 g2;rw[this.2];show(#[zc zb 0,za none 0 0])[(j*2+1) % 2]! =_;rw[h];rfl
theorem yA8(W:zg)(len:Nat)(hlen:len<=1048576):
 (Instr.makeSlice 31 (zc zb len) (zc zb len)).run ze W=.ok (za (some ⟨W.heap.size,0,none⟩) len len) (W.alloc (.cells (zg5 (zn len rt0)).toArray 80)):=by
 have h:=zp2;cases hq:Tryz.prog.info? 80 with
 |none=>simp[hq]at h
 |some i=>
  simp[hq]at h;obtain⟨hz,hs,hb⟩:=h;have:=run_make (P:=ze) W 31 80 i (.agg #[zc zb 0,za none 0 0]) xI hq hz zb zb len len (by omega) (by omega) (by rw[hb];omega) (by omega);rw[this,hs];simp only[yk,yB8]
def yg6(w:zg)(base:Nat)(R S:List RT):Prop:=S.map RT.key=R.map RT.key/\∀s∈S,∃g,s.a=some ⟨g,0,none⟩/\base<=g/\s.c=s.ids.length/\w.heap[g]? =some (.cells (cellsOf s.ids) 2 (0,0))
theorem yg6.below{w w':zg}{base:Nat}{R S:List RT}(h:yg6 w base R S)(hb:Below w.heap.size w w'):yg6 w' base R S:=
 ⟨h.1,fun s hs=>by obtain⟨g,h1,h2,h3,h4⟩:=h.2 s hs;exact⟨g,h1,h2,h3,za0 hb (za2 h4) h4⟩⟩
theorem yg6.ints{w:zg}{base:Nat}{R S:List RT}(h:yg6 w base R S):∀s∈S,za3 w s.a s.ids:=fun s hs=>by
 obtain⟨g,h1,_,_,h4⟩:=h.2 s hs;rw[h1];exact za3.of_row h4
theorem zD0{W:zg}{g k i:Nat}{o:Obj}{v:Value}(h:W.heap[g]? =some o)(hne:g≠k):(W.setCell ⟨k,i,none⟩ v).heap[g]? =some o:=by
 rw[xg _ _ _ _ (by simpa using hne)];exact h
theorem yg6.set{w:zg}{base k i:Nat}{v:Value}{R S:List RT}(h:yg6 w base R S)(hk:k<base):yg6 (w.setCell ⟨k,i,none⟩ v) base R S:=
 ⟨h.1,fun s hs=>by obtain⟨g,h1,h2,h3,h4⟩:=h.2 s hs;exact⟨g,h1,h2,h3,zD0 h4 (by omega)⟩⟩
theorem zL6{R S:List RT}(h:S.map RT.key=R.map RT.key)(j:Nat):(S.getD j rt0).v=(R.getD j rt0).v/\(S.getD j rt0).ids=(R.getD j rt0).ids:=by
 have hl:S.length=R.length:=by simpa using congrArg zj h
 rcases Nat.lt_or_ge j R.length with hj|hj
 ·have e:(S.map RT.key)[j]? =(R.map RT.key)[j]? :=by rw[h]
  rw[ye,ye,zO (by omega),zO hj]at e;simp only[yC,xG,RT.key,Prod.mk.injEq]at e;simp only[zM,zO hj,zO (show j<S.length by omega),yJ];exact e
 ·have e1:R.getD j rt0=rt0:=by rw[zM,yb hj];rfl
  have e2:S.getD j rt0=rt0:=by rw[zM,yb (show S.length<=j by omega)];rfl
  rw[e1,e2];exact⟨rfl,rfl⟩
theorem zr5{R S:List RT}(h:S.map RT.key=R.map RT.key):S.length=R.length:=by
 have:=congrArg zj h;simpa using this
theorem z48{R S:List RT}(h:S.map RT.key=R.map RT.key)(k:Nat):za8 S k=za8 R k:=by
 have e:∀T:List RT,za8 T k=((T.map RT.key).take k).flatMap (fun x=>x.2):=fun T=>by
  unfold za8;rw[<-List.map_take,List.flatMap_map];rfl
 rw[e S,e R,h]
theorem ya0{n:Int}{zs os vs:List Int}{ko kv:Nat}{R S:List RT}(h:S.map RT.key=R.map RT.key)(k:Nat):zi6 n zs os vs ko kv S k↔zi6 n zs os vs ko kv R k:=by
 have e:=zL6 h;unfold zi6;constructor
 ·intro H j hj
  have:=H j hj;rw[(e j).1,(e j).2,(e (j - 1)).1]at this;exact this
 ·intro H j hj
  have:=H j hj;rw[(e j).1,(e j).2,(e (j - 1)).1];exact this
theorem zd2{n:Int}{zs os vs:List Int}{ko kv:Nat}{fine:Int}{R S:List RT}(L:List Int)(h:S.map RT.key=R.map RT.key):zc3 n zs os vs ko kv fine S L=zc3 n zs os vs ko kv fine R L:=by
 unfold zc3;rw[zr5 h,z48 h];by_cases hc:zc8 n zs os vs ko kv fine=true
 ·rw[zV hc,zV hc]
  by_cases hr:zi6 n zs os vs ko kv R R.length
  ·rw[zV hr,zV ((ya0 h _).2 hr)]
  ·rw[zW hr,zW (fun x=>hr ((ya0 h _).1 x))]
 ·rw[zW hc,zW hc]
def zi1(w:zg)(g gl:Nat)(S R:List RT)(L:List Int):Prop:=w.heap[g]? =some (.cells (zg5 S).toArray 80 (0,0))/\yg6 w (g+1) R S/\w.heap[gl]? =some (.cells (cellsOf L) 2 (0,0))
theorem zi1.below{w w':zg}{g gl:Nat}{S R:List RT}{L:List Int}(h:zi1 w g gl S R L)(hb:Below w.heap.size w w'):zi1 w' g gl S R L:=
 ⟨za0 hb (za2 h.1) h.1,h.2.1.below hb,za0 hb (za2 h.2.2) h.2.2⟩
theorem zi1.r{w:zg}{g gl:Nat}{S R:List RT}{L:List Int}(h:zi1 w g gl S R L):za9 w (some ⟨g,0,none⟩) S:=za9.of_row h.1 h.2.1.ints
theorem zi1.l{w:zg}{g gl:Nat}{S R:List RT}{L:List Int}(h:zi1 w g gl S R L):za3 w (some ⟨gl,0,none⟩) L:=za3.of_row h.2.2
theorem zi1.k{w:zg}{g gl:Nat}{S R:List RT}{L:List Int}(h:zi1 w g gl S R L):S.map RT.key=R.map RT.key:=h.2.1.1
theorem zi1.room{w:zg}{g gl:Nat}{S R:List RT}{L:List Int}(h:zi1 w g gl S R L):∀s∈S,s.ids.length<=s.c:=fun s hs=>by
 obtain⟨_,_,_,hc,_⟩:=h.2.1.2 s hs;omega
theorem yd6{R S:List RT}(h:S.map RT.key=R.map RT.key){b:Nat}(hi:∀r∈R,r.ids.length<=b):∀s∈S,s.ids.length<=b:=fun s hs=>by
 have:s.key∈S.map RT.key:=xP hs;rw[h]at this;obtain⟨r,hr,e⟩:=yy.1 this;have:=hi r hr;unfold RT.key at e;simp at e;rw[<-e.2];exact this
theorem ys9(R:List RT)(left:Int):∀k,k<=R.length->0<=szR R left k->((za8 R k).length:Int)+szR R left k=left
 |0,_,_=>by rw[zi4];simp[szR]
 |k+1,hk,h=>by
  have e:szR R left (k+1)=if szR R left k<0 then -1 else if szR R left k<((R.getD k rt0).ids.length:Int)then -1 else szR R left k - (R.getD k rt0).ids.length:=rfl
  rw[e]at h⊢;by_cases c1:szR R left k<0
  ·rw[zV c1]at h;omega
  ·rw[zW c1]at h⊢
   by_cases c2:szR R left k<((R.getD k rt0).ids.length:Int)
   ·rw[zV c2]at h;omega
   ·rw[zW c2]
    have ih:=ys9 R left k (by omega) (by omega);rw[zf4 (by omega),xF];omega
theorem yn6{R:List RT}{ln:Nat}{left:Int}(h0:0<=left)(h1:left<=1048576)(h:0<=yG4 R ln left):R.length<=1048576/\(∀r∈R,r.ids.length<=1048576)/\ln<=1048576/\(za8 R R.length).length<=1048576:=by
 unfold yG4 at h;by_cases c1:szRS R left<0
 ·rw[zV c1]at h;omega
 ·rw[zW c1]at h
  by_cases c2:szRS R left<(ln:Int)
  ·rw[zV c2]at h;omega
  ·rw[zW c2]at h
   unfold szRS at c1 c2;by_cases c3:left<(R.length:Int)
   ·rw[zV c3]at c1;omega
   ·rw[zW c3]at c1 c2
    have hsum:=ys9 R (left - R.length) R.length (zQ _) (by omega);have hids:=y09 R (left - R.length) (by omega) R.length;have hle:=zU0 R (left - R.length) (by omega) R.length;refine⟨by omega,fun r hr=> ?_,by omega,by omega⟩;obtain⟨j,hj,e⟩:=xK hr;have:=hids j hj (by omega);rw[zM,zO hj]at this;simp only[yJ,e]at this;omega
theorem zZ6(ra:Option Addr)(rc:Nat)(R:List RT)(left:Int)(w:zg)(hA:za9 w ra R)(h0:0<=left)(h1:left<=1048576)(hn:R.length<=9223372036854775807)(hi:∀r∈R,r.ids.length<=9223372036854775807):
 Calls ze 51 #[za ra R.length rc,zc zb left] w fun e w'=>e=.returned (zc zb (szRS R left))/\Below w.heap.size w w':=by
 have HA:=za4 hA;have HI:=za4 hi;clear hA hi;obtain⟨n,HN⟩:=nmd R.length;rw[HN.X]at hn⊢;by_cases hl:left<n
 ·have HS:Hid (szRS R left= -1):=by show _=_;unfold szRS;rw[HN.X,zV hl]
  have hl2:left - (n:Int)<0:=by omega
  go_enter Tryz.func51,Tryz.ntmps51;go_wp2;go_ret;exact⟨by rw[HS.X];rfl,yV _ _⟩
 ·obtain⟨l0,HL0⟩:=nmd (left - (n:Int))
  have HS:Hid (szRS R left=szR R l0 n):=by show _=_;unfold szRS;rw[HN.X,zW hl,HL0.X]
  have hl0:0<=l0/\l0<=1048576:=by have:=HL0.X;omega
  have hl0e:=HL0.X;have hw1:IntKind.i64.wrap (left - (n:Int))=l0:=by rw[hl0e];exact xM _ (by omega)
  have hn0:¬(l0<0):=by omega
  go_enter Tryz.func51,Tryz.ntmps51
  go_wp2_with fail
  clear hw1 hl0e;go_loopw[1,5] (fun tl ti wr=>∃k:Nat,k<=n/\ti=zc zb k/\tl=zc zb (szR R l0 k)/\0<=szR R l0 k/\Below w.heap.size w wr) (fun _ ti _=>n - (intOf ti).toNat)
  case atStart=>exact⟨0,yZ _,rfl,rfl,hl0.1,yV _ _⟩
  case round=>
   obtain⟨k,hk,rfl,rfl,hs0,hb⟩:=hrel;have B1:=za4 hb;clear hb;have hsl:=(zU0 R l0 hl0.1 k).1;have HNX:Hid (szR R l0 (k+1)=if szR R l0 k<((R.getD k rt0).ids.length:Int)then -1 else szR R l0 k - (R.getD k rt0).ids.length):=by
    show _=_;simp only[szR];rw[zW (by omega)]
   obtain⟨s,HSK⟩:=nmd (szR R l0 k);rw[HSK.X]at hs0 hsl HNX⊢;by_cases hlt:k<n
   ·have hkn:(k:Int)<n:=by omega
    obtain⟨b,off,e,c1,c2,_⟩:=(HA.X.below B1.X) k (by rw[HN.X];exact hlt);have him:(R.getD k rt0).ids.length<=9223372036854775807:=HI.X _ (by
     have:k<R.length:=by rw[HN.X];exact hlt
     rw[zM,zO this];simp)
    subst e;generalize R.getD k rt0=r at*;obtain⟨rv,rra,rids,rcc⟩:=r;simp only at c1 c2 HNX him;generalize rids.length=m at*
    go_wp2_with fail
    refine(yd4 rv rra m rcc s wr hs0 (by omega) him).mono ?_;rintro e w2 ⟨rfl,hb2⟩;have B2:Hid (Below w.heap.size w w2):=B1.X.trans (hb2.mono B1.X.size);clear hb2 B1;by_cases hms:s<m
    ·rw[zV hms]at HNX⊢
     have HSN:Hid (szR R l0 n= -1):=by
      rcases y53 R l0 (show k+1<=n by omega) HNX.X with h|h
      ·exact h
      ·rw[<-h];exact HNX.X
     go_wp2;go_ret;exact⟨by rw[HS.X,HSN.X];rfl,B2.X⟩
    ·rw[zW hms]at HNX⊢
     obtain⟨s2,HS2⟩:=nmd (s - (m:Int));have hs2:¬(s2<0):=by have:=HS2.X;omega
     rw[HS2.X]at HNX⊢;clear hms;go_wp2
     first
      |exact⟨⟨k+1,by omega,by first|rfl|go_num,by rw[HNX.X],by rw[HNX.X];omega,B2.X⟩,by simp[intOf];omega⟩
      |(go_roundw
        case rel=>exact⟨k+1,by omega,by first|rfl|go_num,by rw[HNX.X],by rw[HNX.X];omega,B2.X⟩
        case measure=>simp[intOf];omega)
   ·have hkn:k=n:=by omega
    subst hkn;have HSF:Hid (szRS R left=s):=HS.X.trans HSK.X;clear HS HSK HNX;go_wp2;go_ret;exact⟨by rw[HSF.X];rfl,B1.X⟩
theorem yp3(ra la:Option Addr)(rc ln lc:Nat)(R:List RT)(left:Int)(w:zg)(hA:za9 w ra R)(h0:0<=left)(h1:left<=1048576)(hn:R.length<=9223372036854775807)(hln:ln<=9223372036854775807)(hi:∀r∈R,r.ids.length<=9223372036854775807):
 Calls ze 14 #[.agg #[za ra R.length rc,za la ln lc],zc zb left] w fun e w'=>e=.returned (zc zb (yG4 R ln left))/\Below w.heap.size w w':=by
 have HA:=za4 hA;clear hA;have B0:Hid (Below w.heap.size w (w.alloc (zd #[za ra R.length rc,za la ln lc] 48))):=zK _;have G0:Hid ((w.alloc (zd #[za ra R.length rc,za la ln lc] 48)).heap[w.heap.size]? =some (zd #[za ra R.length rc,za la ln lc] 48 (0,0))):=zN _ _;have A0:=za4 (HA.X.below B0.X);have hsb:szRS R left<=1048576/\ -1<=szRS R left:=by
  unfold szRS;split
  ·omega
  ·have:=zU0 R (left - R.length) (by omega) R.length
   omega
 go_enter Tryz.func14,Tryz.ntmps14;obtain⟨d0,d1⟩:=za1 G0.X
 go_wp2_with fail
 clear d0 d1;generalize w.alloc (zd #[za ra R.length rc,za la ln lc] 48)=W0 at*;refine(zZ6 ra rc R left W0 A0.X h0 h1 hn hi).mono ?_;rintro e w1 ⟨rfl,hb⟩;have B1:Hid (Below w.heap.size w w1):=B0.X.trans (hb.mono B0.X.size);have G1:=za0 hb (za2 G0.X) G0.X;clear hb A0 B0 G0;have HP:Hid (yG4 R ln left=if szRS R left<0 then -1 else if szRS R left<(ln:Int)then -1 else szRS R left - ln):=rfl;generalize szRS R left=s at*;by_cases hs:s<0
 ·rw[zV hs]at HP
  clear G1;go_wp2;go_ret;exact⟨by rw[HP.X];rfl,B1.X⟩
 ·rw[zW hs]at HP
  obtain⟨d0,d1⟩:=za1 G1;have hs0:0<=s:=by omega
  go_wp2_with fail
  clear d0 d1 G1;refine(zt7 la ln lc s w1 hs0 hsb.1 hln).mono ?_;rintro e w2 ⟨rfl,rfl⟩;have B2:Hid (Below w.heap.size w w2):=B1.X;clear B1;obtain⟨f,HF⟩:=nmd (yG4 R ln left);rw[<-HP.X,HF.X];rw[HF.X]at HP;by_cases hf:f<0
  ·have hfe:f= -1:=by
    have:=HP.X;split at this<;>omega
   subst hfe;clear hf;go_wp2;go_ret;exact⟨by rw[HF.X];rfl,B2.X⟩
  ·go_wp2
   go_ret;exact⟨by rw[HF.X];rfl,B2.X⟩
theorem zZ0(ra:Option Addr)(rc:Nat)(R:List RT)(w:zg)(hA:za9 w ra R)(hn:R.length<=1048576)(hi:∀r∈R,r.ids.length<=1048576):
 Calls ze 56 #[za ra R.length rc] w fun e w'=>∃S,e=.returned (za (some ⟨w.heap.size,0,none⟩) R.length R.length)/\Below w.heap.size w w'/\w'.heap[w.heap.size]? =some (.cells (zg5 S).toArray 80 (0,0))/\yg6 w' (w.heap.size+1) R S:=by
 have HA:=za4 hA;have HI:=za4 hi;clear hA hi;obtain⟨n,HN⟩:=nmd R.length;rw[HN.X]at hn⊢;have hmk:=fun W=>yA8 W n hn;go_enter Tryz.func56,Tryz.ntmps56
 go_wp2_with fail
 clear hmk;go_loopw[4] (fun t wr=>∃(k:Nat) (S:List RT),k<=n/\t=zc zb k/\Below w.heap.size w wr/\w.heap.size<wr.heap.size/\S.length=k/\yg6 wr (w.heap.size+1) (R.take k) S/\wr.heap[w.heap.size]? =some (.cells (zg5 (S++zn (n - k) rt0)).toArray 80 (0,0))) (fun t _=>n - (intOf t).toNat)
 case atStart=>
  refine⟨0,[],yZ _,rfl,zK _,by simp,rfl,⟨by simp,fun s hs=>by simp at hs⟩,?_⟩;rw[yo,Nat.sub_zero];exact zN w _
 case round=>
  obtain⟨k,S,hk,rfl,hb,hsz,hS,hN,hg⟩:=hrel;have B1:=za4 hb;have N1:=za4 hN;have G1:=za4 hg;have HSk:=za4 hS;clear hb hN hg hS;by_cases hlt:k<n
  ·have hkn:(k:Int)<n:=by omega
   obtain⟨b,off,e,c1,c2,i3⟩:=(HA.X.below B1.X) k (by rw[HN.X];exact hlt);have hkR:k<R.length:=by rw[HN.X];exact hlt
   have hmem:R.getD k rt0∈R:=by rw[zM,zO hkR];simp
   have him:=HI.X _ hmem;have HTK:Hid (R.take (k+1)=R.take k++[R.getD k rt0]):=by
    show _=_;rw[yd hkR];simp[List.getD,hkR]
   subst e;generalize R.getD k rt0=r at*;obtain⟨rv,rra,rids,rcc⟩:=r;simp only at c1 c2 i3 him;have I3:=za4 i3;clear i3 hmem
   go_wp2_with fail
   clear c1 c2;refine(ye2 rv rra rcc rids wr I3.X him).mono ?_;rintro e w2 ⟨g2,hg2,rfl,hb2,hr2⟩;have B2:Hid (Below w.heap.size w w2):=B1.X.trans (hb2.mono B1.X.size);have N2:=za4 (N1.X.below hb2);have G2:=za4 (za0 hb2 (za2 G1.X) G1.X);have R2:=za4 hr2;have hsz2:w.heap.size<w2.heap.size:=by have:=hb2.size;omega
   have hgw:w.heap.size+1<=g2:=by omega
   clear hb2 hr2 B1 N1 G1 I3;obtain⟨q1,q2⟩:=zp0 (S++zn (n - k) rt0) k (by simp[HSk.X];omega);have f1:=zR _ _ (k*2) _ _ _ G2.X;have f2:=zR _ _ (k*2+1) _ _ _ G2.X;have ff:=fun i=>yU _ _ i _ _ G2.X;rw[List.getElem?_toArray]at f1 f2;rw[q1]at f1;rw[q2]at f2;clear q1 q2;have HNEW:Hid (((w2.setCell ⟨w.heap.size,k*2,none⟩ (zc zb rv)).setCell ⟨w.heap.size,k*2+1,none⟩ (za (some ⟨g2,0,none⟩) rids.length rids.length)).heap[w.heap.size]? =some (.cells (zg5 ((S++[(⟨rv,some ⟨g2,0,none⟩,rids,rids.length⟩:RT)])++zn (n - (k+1)) rt0)).toArray 80 (0,0))):=by
    show _=_;have s1:=zP w2 w.heap.size (k*2) _ _ (zc zb rv) G2.X;have s2:=zP _ w.heap.size (k*2+1) _ _ (za (some ⟨g2,0,none⟩) rids.length rids.length) s1;rw[s2];have e:=yk4 (S++zn (n - k) rt0) k ⟨rv,some ⟨g2,0,none⟩,rids,rids.length⟩ (by simp[HSk.X];omega);have e2:(S++zn (n - k) rt0).set k ⟨rv,some ⟨g2,0,none⟩,rids,rids.length⟩=(S++[(⟨rv,some ⟨g2,0,none⟩,rids,rids.length⟩:RT)])++zn (n - (k+1)) rt0:=by
     rw[yK _ _ (by rw[HSk.X];exact zQ _),HSk.X,yF,show n - k=(n - (k+1))+1 by omega,List.replicate_succ,zL,z7];rfl
    rw[e2]at e;rw[<-e];simp
   have HB3:Hid (Below w.heap.size w ((w2.setCell ⟨w.heap.size,k*2,none⟩ (zc zb rv)).setCell ⟨w.heap.size,k*2+1,none⟩ (za (some ⟨g2,0,none⟩) rids.length rids.length))):=(B2.X.setCell (zQ _) _).setCell (zQ _) _;have HN3:Hid (yg6 ((w2.setCell ⟨w.heap.size,k*2,none⟩ (zc zb rv)).setCell ⟨w.heap.size,k*2+1,none⟩ (za (some ⟨g2,0,none⟩) rids.length rids.length)) (w.heap.size+1) (R.take (k+1)) (S++[(⟨rv,some ⟨g2,0,none⟩,rids,rids.length⟩:RT)])):=by
    rw[HTK.X];refine⟨by rw[xH,xH,N2.X.1];rfl,fun s hs=> ?_⟩;have hkeep:∀g o,w.heap.size+1<=g->w2.heap[g]? =some o->((w2.setCell ⟨w.heap.size,k*2,none⟩ (zc zb rv)).setCell ⟨w.heap.size,k*2+1,none⟩ (za (some ⟨g2,0,none⟩) rids.length rids.length)).heap[g]? =some o:=fun g o hg h=>by
     rw[xg _ _ _ _ (by show g≠w.heap.size;omega),xg _ _ _ _ (by show g≠w.heap.size;omega)];exact h
    rcases yi.1 hs with hs|hs
    ·obtain⟨g,h1,h2,h3,h4⟩:=N2.X.2 s hs
     exact⟨g,h1,h2,h3,hkeep g _ h2 h4⟩
    ·have:s=⟨rv,some ⟨g2,0,none⟩,rids,rids.length⟩:=by simpa using hs
     subst this;exact⟨g2,rfl,hgw,rfl,hkeep g2 _ hgw R2.X⟩
   have hsz3:w.heap.size<((w2.setCell ⟨w.heap.size,k*2,none⟩ (zc zb rv)).setCell ⟨w.heap.size,k*2+1,none⟩ (za (some ⟨g2,0,none⟩) rids.length rids.length)).heap.size:=by simpa[World.setCell]using hsz2
   clear B2 N2 G2 R2
   go_wp2_with fail
   exact⟨⟨k+1,_,by omega,by first|rfl|go_num,HB3.X,hsz3,by simp[HSk.X],HN3.X,HNEW.X⟩,by simp[intOf];omega⟩
  ·have hkn:k=n:=by omega
   subst hkn;have HT:Hid (R.take k=R):=by show _=_;rw[<-HN.X,yc]
   rw[HT.X]at N1;rw[yF,List.replicate_zero,xJ]at G1;go_wp2;go_ret;exact⟨S,rfl,B1.X,G1.X,N1.X⟩
structure TP(w W:zg)(src z out:Array Value):Prop where
 b:Below w.heap.size w W
 s:W.heap[w.heap.size]? =some (.cells src 48 (0,0))
 z:W.heap[w.heap.size+1]? =some (.cells z 33 (0,0))
 o:W.heap[w.heap.size+1+1]? =some (.cells out 33 (0,0))
theorem TP.below{w W W':zg}{src z out:Array Value}(h:TP w W src z out)(hb:Below W.heap.size W W'):TP w W' src z out:=
 ⟨h.b.trans (hb.mono h.b.size),za0 hb (za2 h.s) h.s,za0 hb (za2 h.z) h.z,za0 hb (za2 h.o) h.o⟩
theorem TP.set{w W:zg}{src z out:Array Value}(h:TP w W src z out)(i:Nat)(v:Value):TP w (W.setCell ⟨w.heap.size+1+1,i,none⟩ v) src z (out.setIfInBounds i v):=
 ⟨h.b.setCell (by simp;omega) _,by rw[xg _ _ _ _ (by simp;omega)];exact h.s,by rw[xg _ _ _ _ (by simp)];exact h.z,zP _ _ _ _ _ _ h.o⟩
theorem zM9(ra la:Option Addr)(rc lc:Nat)(R:List RT)(L:List Int)(w:zg)(hA:za9 w ra R)(hL:za3 w la L)(hn:R.length<=1048576)(hi:∀r∈R,r.ids.length<=1048576)(hll:L.length<=1048576):
 Calls ze 16 #[.agg #[za ra R.length rc,za la L.length lc]] w fun e w'=>∃g gl S,e=.returned (.agg #[za (some ⟨g,0,none⟩) R.length R.length,za (some ⟨gl,0,none⟩) L.length L.length])/\Below w.heap.size w w'/\w.heap.size<=g/\g<gl/\w'.heap[g]? =some (.cells (zg5 S).toArray 80 (0,0))/\yg6 w' (g+1) R S/\w'.heap[gl]? =some (.cells (cellsOf L) 2 (0,0)):=by
 have HA:=za4 hA;have HL:=za4 hL;have HI:=za4 hi;clear hA hL hi;have T0:Hid (TP w (((w.alloc (zd #[za ra R.length rc,za la L.length lc] 48)).alloc (zd #[za none 0 0,za none 0 0] 33)).alloc (zd #[za none 0 0,za none 0 0] 33)) #[za ra R.length rc,za la L.length lc] #[za none 0 0,za none 0 0] #[za none 0 0,za none 0 0]):=by
  have h2:=zN ((w.alloc (zd #[za ra R.length rc,za la L.length lc] 48)).alloc (zd #[za none 0 0,za none 0 0] 33)) (zd #[za none 0 0,za none 0 0] 33);have ha:Below (w.heap.size+1+1) ((w.alloc (zd #[za ra R.length rc,za la L.length lc] 48)).alloc (zd #[za none 0 0,za none 0 0] 33)) (((w.alloc (zd #[za ra R.length rc,za la L.length lc] 48)).alloc (zd #[za none 0 0,za none 0 0] 33)).alloc (zd #[za none 0 0,za none 0 0] 33)):=(yV _ _).alloc (by simp) _;exact⟨((zK _).alloc (by simp) _).alloc (by simp;omega) _,(ha.block _ (by omega)).trans (xb _ _ _),(ha.block _ (by omega)).trans (y8 _ _ _),by simpa using h2⟩
 go_enter Tryz.func16,Tryz.ntmps16;obtain⟨c0,c1⟩:=za1 T0.X.s
 go_wp2_with fail
 clear c0 c1;generalize((w.alloc (zd #[za ra R.length rc,za la L.length lc] 48)).alloc (zd #[za none 0 0,za none 0 0] 33)).alloc (zd #[za none 0 0,za none 0 0] 33)=W0 at*;have hW0:=za2 T0.X.o;refine(zZ0 ra rc R W0 (HA.X.below T0.X.b) hn HI.X).mono ?_;rintro e w1 ⟨S,rfl,hb,hg,hN⟩;have T1:=za4 (T0.X.below hb);obtain⟨g,HG⟩:=nmd W0.heap.size;rw[HG.X]at hg hN hW0⊢;have G1:=za4 hg;have N1:=za4 hN;have hg1:g<w1.heap.size:=za2 hg;clear T0 hb hg hN HG W0;obtain⟨x0,x1⟩:=za1 T1.X.o;obtain⟨c0,c1⟩:=za1 T1.X.s;have f0:=fun i=>yU _ _ i _ _ T1.X.o
 go_wp2_with fail
 clear x0 x1 c0 c1 f0;have T2:Hid (TP w (w1.setCell ⟨w.heap.size+1+1,0,none⟩ (za (some ⟨g,0,none⟩) R.length R.length)) #[za ra R.length rc,za la L.length lc] #[za none 0 0,za none 0 0] #[za (some ⟨g,0,none⟩) R.length R.length,za none 0 0]):=by
  have:=T1.X.set 0 (za (some ⟨g,0,none⟩) R.length R.length);change TP w _ _ _ _;simpa using this
 have G2:Hid ((w1.setCell ⟨w.heap.size+1+1,0,none⟩ (za (some ⟨g,0,none⟩) R.length R.length)).heap[g]? =some (.cells (zg5 S).toArray 80 (0,0))):=zD0 G1.X (by omega);have N2:Hid (yg6 (w1.setCell ⟨w.heap.size+1+1,0,none⟩ (za (some ⟨g,0,none⟩) R.length R.length)) (g+1) R S):=N1.X.set (by omega);have hg2:g<(w1.setCell ⟨w.heap.size+1+1,0,none⟩ (za (some ⟨g,0,none⟩) R.length R.length)).heap.size:=za2 G2.X;clear T1 G1 N1 hg1;generalize w1.setCell ⟨w.heap.size+1+1,0,none⟩ (za (some ⟨g,0,none⟩) R.length R.length)=W2 at*;refine(z74 la lc L W2 (HL.X.below T2.X.b) hll).mono ?_;rintro e w3 ⟨rfl,hb,-,hr⟩;have T3:=za4 (T2.X.below hb);have G3:=za4 (za0 hb (za2 G2.X) G2.X);have N3:=za4 (N2.X.below hb);obtain⟨gl,HGL⟩:=nmd W2.heap.size;rw[HGL.X]at hr hg2⊢;have L3:=za4 hr;clear T2 G2 N2 hb hr HGL W2;obtain⟨x0,x1⟩:=za1 T3.X.o;obtain⟨z0,z1⟩:=za1 T3.X.z;obtain⟨c0,c1⟩:=za1 T3.X.s;have f0:=fun i=>yU _ _ i _ _ T3.X.o;have f1:=fun i=>yU _ _ i _ _ T3.X.z;go_wp2;refine yX (v:=.agg #[za (some ⟨g,0,none⟩) R.length R.length,za (some ⟨gl,0,none⟩) L.length L.length]) (by simp[results,Tryz.results16,go_sem,z0,z1]) rfl ⟨g,gl,S,rfl,?_,by omega,hg2,?_,?_,?_⟩
 ·repeat(first|with_reducible exact T3.X.b|refine xd ?_ (by simp<;>omega) _)
 ·repeat(first|with_reducible exact G3.X|refine zD0 ?_ (by omega))
 ·repeat(first|with_reducible exact N3.X|refine yg6.set ?_ (by omega))
 ·repeat(first|with_reducible exact L3.X|refine zD0 ?_ (by omega))
theorem zS3(ra sa:Option Addr)(rc sc n:Nat)(R S:List RT)(w:zg)(hA:za9 w ra R)(hB:za9 w sa S)(hk:S.map RT.key=R.map RT.key)(hR:R.length=n)(hn:n<=1048576)(hi:∀r∈R,r.ids.length<=1048576):
 Calls ze 58 #[za ra n rc,za sa n sc] w fun e w'=>e=.returned (.bool true)/\Below w.heap.size w w':=by
 have HA:=za4 hA;have HB:=za4 hB;have HK:=za4 hk;have HR:=za4 hR;have HS:Hid (S.length=n):=by show _=_;rw[<-hR];simpa using congrArg zj hk
 have HI:=za4 hi;clear hA hB hk hR hi;go_enter Tryz.func58,Tryz.ntmps58
 go_wp2_with fail
 go_loopw[5] (fun ti wr=>∃i:Nat,i<=n/\ti=zc zb i/\Below w.heap.size w wr) (fun ti _=>n - (intOf ti).toNat)
 case atStart=>exact⟨0,yZ _,rfl,yV _ _⟩
 case round=>
  obtain⟨i,hi,rfl,hb⟩:=hrel;have B1:=za4 hb;clear hb;by_cases hlt:i<n
  ·obtain⟨b1,o1,e1,c1,c2,i1⟩:=(HA.X.below B1.X) i (by rw[HR.X];exact hlt)
   obtain⟨b2,o2,e2,d1,d2,i2⟩:=(HB.X.below B1.X) i (by rw[HS.X];exact hlt);have hkey:=zL6 HK.X i;have him:(R.getD i rt0).ids.length<=1048576:=HI.X _ (by
    have:i<R.length:=by rw[HR.X];exact hlt
    rw[zM,zO this];simp)
   subst e1 e2;generalize R.getD i rt0=r at*;generalize S.getD i rt0=s at*;obtain⟨rv,rra,rids,rcc⟩:=r;obtain⟨sv,ssa,sids,scc⟩:=s;simp only at hkey c1 c2 i1 d1 d2 i2 him;obtain⟨rfl,rfl⟩:=hkey;have ER:Hid (∀W,Below wr.heap.size wr W->Calls ze 106 #[.agg #[zc zb sv,za rra sids.length rcc],.agg #[zc zb sv,za ssa sids.length scc]] W fun e w'=>e=.returned (.bool true)/\Below W.heap.size W w'):=fun W hb=>zV0 sv rra ssa rcc scc sids W (i1.below hb) (i2.below hb) (by omega)
   clear i1 i2;have hin:(i:Int)<n:=by omega
   have z1:=fun s:Kin wr=>s.cell c1;have z2:=fun s:Kin wr=>s.cell c2;have z3:=fun s:Kin wr=>s.cell d1;have z4:=fun s:Kin wr=>s.cell d2;have hkin:=Kin.there wr;generalize sids.length=m at*
   go_wp2_with fail
   refine zb0 (by kernel_rfl) (by kernel_rfl) ?_
   repeat(go_big_quiet_step ((go_at_call 106;with_reducible exact Kin.call (ER.X _ (Kin.below _)))))
   refine xj ?_;rintro _ ⟨s1,rfl⟩;clear z1 z2 z3 z4 hkin;go_wp2;go_roundw
   case rel=>exact⟨i+1,by omega,by first|rfl|go_num,B1.X.trans (s1.below.mono B1.X.size)⟩
   case measure=>simp[intOf];omega
  ·have hin:¬((i:Int)<n):=by omega
   go_wp2;go_ret;exact⟨rfl,B1.X⟩
theorem zv0(ra sa la ma:Option Addr)(rc sc n lc mc:Nat)(R S:List RT)(L:List Int)(w:zg)(hA:za9 w ra R)(hB:za9 w sa S)(hk:S.map RT.key=R.map RT.key)(hR:R.length=n)(hn:n<=1048576)(hi:∀r∈R,r.ids.length<=1048576)(hL:za3 w la L)(hM:za3 w ma L)(hll:L.length<=1048576):
 Calls ze 17 #[.agg #[za ra n rc,za la L.length lc],.agg #[za sa n sc,za ma L.length mc]] w fun e w'=>e=.returned (.bool true)/\Below w.heap.size w w':=by
 have HA:=za4 hA;have HB:=za4 hB;have HL:=za4 hL;have HM:=za4 hM;have B0:Hid (Below w.heap.size w ((w.alloc (zd #[za ra n rc,za la L.length lc] 33)).alloc (zd #[za sa n sc,za ma L.length mc] 33))):=(zK _).alloc (by simp) _;have G0:Hid (((w.alloc (zd #[za ra n rc,za la L.length lc] 33)).alloc (zd #[za sa n sc,za ma L.length mc] 33)).heap[w.heap.size]? =some (zd #[za ra n rc,za la L.length lc] 33 (0,0))):=xb _ _ _;have G1:Hid (((w.alloc (zd #[za ra n rc,za la L.length lc] 33)).alloc (zd #[za sa n sc,za ma L.length mc] 33)).heap[w.heap.size+1]? =some (zd #[za sa n sc,za ma L.length mc] 33 (0,0))):=y8 _ _ _;clear hA hB hL hM;obtain⟨c0,c1⟩:=za1 G0.X;obtain⟨d0,d1⟩:=za1 G1.X;go_enter Tryz.func17,Tryz.ntmps17
 go_wp2_with fail
 clear c0 c1 d0 d1;generalize(w.alloc (zd #[za ra n rc,za la L.length lc] 33)).alloc (zd #[za sa n sc,za ma L.length mc] 33)=W0 at*;refine(zS3 ra sa rc sc n R S W0 (HA.X.below B0.X) (HB.X.below B0.X) hk hR hn hi).mono ?_;rintro e w1 ⟨rfl,hb⟩;have B1:Hid (Below w.heap.size w w1):=B0.X.trans (hb.mono B0.X.size);obtain⟨c0,c1⟩:=za1 (za0 hb (za2 G0.X) G0.X);obtain⟨d0,d1⟩:=za1 (za0 hb (za2 G1.X) G1.X);clear hb B0 G0 G1
 go_wp2_with fail
 clear c0 c1 d0 d1;refine(zp8 la ma lc mc L L w1 (HL.X.below B1.X) (HM.X.below B1.X) (by omega)).mono ?_;rintro e w2 ⟨rfl,hb⟩;have B2:Hid (Below w.heap.size w w2):=B1.X.trans (hb.mono B1.X.size);clear hb;rw[show decide (L=L)=true from zS rfl];go_wp2;go_ret;exact⟨rfl,B2.X⟩
theorem yt1(g gl g2 gl2:Nat)(S S2 R:List RT)(L:List Int)(w:zg)(hP:zi1 w g gl S R L)(hQ:zi1 w g2 gl2 S2 R L)(hn:R.length<=1048576)(hi:∀r∈R,r.ids.length<=1048576)(hll:L.length<=1048576):
 Calls ze 17 #[.agg #[za (some ⟨g,0,none⟩) R.length R.length,za (some ⟨gl,0,none⟩) L.length L.length],.agg #[za (some ⟨g2,0,none⟩) R.length R.length,za (some ⟨gl2,0,none⟩) L.length L.length]] w fun e w'=>e=.returned (.bool true)/\Below w.heap.size w w':=
 zv0 _ _ _ _ _ _ R.length _ _ S S2 L w hP.r hQ.r (hQ.k.trans hP.k.symm) (zr5 hP.k) hn (yd6 hP.k hi) hP.l hQ.l hll
theorem zq6(ra la:Option Addr)(rc lc:Nat)(R:List RT)(L:List Int)(w:zg)(hA:za9 w ra R)(hL:za3 w la L)(hn:R.length<=1048576)(hi:∀r∈R,r.ids.length<=1048576)(hll:L.length<=1048576):
 Calls ze 16 #[.agg #[za ra R.length rc,za la L.length lc]] w fun e w'=>∃g gl S,e=.returned (.agg #[za (some ⟨g,0,none⟩) R.length R.length,za (some ⟨gl,0,none⟩) L.length L.length])/\Below w.heap.size w w'/\zi1 w' g gl S R L:=
 (zM9 ra la rc lc R L w hA hL hn hi hll).mono fun _ _ ⟨g,gl,S,h1,h2,_,_,h5,h6,h7⟩=>⟨g,gl,S,h1,h2,h5,h6,h7⟩
def zP6(r:RT)(s:List RT×Bool)(x:RT):List RT×Bool:=
 (s.1++(if s.2=false/\r.v<=x.v then [r]else [])++(if x.v=r.v then []else [x]),s.2||decide (r.v<=x.v))
def setTo(R:List RT)(r:RT)(k:Nat):List RT×Bool:=(R.take k).foldl (zP6 r) ([],false)
def zK9(R:List RT)(r:RT):List RT:=if(setTo R r R.length).2 then(setTo R r R.length).1 else(setTo R r R.length).1++[r]
theorem z84(R:List RT)(r:RT):setTo R r 0=([],false):=rfl
theorem zL0{R:List RT}{k:Nat}(r:RT)(hk:k<R.length):setTo R r (k+1)=zP6 r (setTo R r k) (R.getD k rt0):=by
 unfold setTo;rw[yd hk,yA];simp[List.getD,hk]
theorem z16(R:List RT)(r:RT):∀k,k<=R.length->(∀x∈(setTo R r k).1,x∈R∨x=r)/\(setTo R r k).1.length<=k+(if(setTo R r k).2 then 1 else 0)
 |0,_=>⟨fun x hx=>by simp[z84]at hx,by simp[z84]⟩
 |k+1,h=>by
  obtain⟨h1,h2⟩:=z16 R r k (by omega);have hk:k<R.length:=by omega
  have hm:R.getD k rt0∈R:=by rw[zM,zO hk];simp
  rw[zL0 r hk];unfold zP6;refine⟨fun x hx=> ?_,?_⟩
  ·simp only[yi]at hx
   rcases hx with(hx|hx)|hx
   ·exact h1 x hx
   ·split at hx
    ·exact .inr (by simpa using hx)
    ·cases hx
   ·split at hx
    ·cases hx
    ·have:x=R.getD k rt0:=by simpa using hx
     rw[this];exact .inl hm
  ·generalize R.getD k rt0=x
   have hA:(if x.v=r.v then []else [x]).length<=1:=by split<;>simp
   simp only[xF];generalize(if x.v=r.v then []else [x]).length=y at*;generalize setTo R r k=s at*;obtain⟨o,d⟩:=s;simp only at h2⊢;cases d
   ·by_cases hv:r.v<=x.v<;>simp[hv]at h2⊢ <;>omega
   ·simp at h2⊢
    omega
theorem zL1(R:List RT)(r:RT):(∀x∈zK9 R r,x∈R∨x=r)/\(zK9 R r).length<=R.length+1:=by
 obtain⟨h1,h2⟩:=z16 R r R.length (zQ _);unfold zK9;cases hd:(setTo R r R.length).2
 ·rw[hd]at h2
  simp only[Bool.false_eq_true,if_false]at h2⊢;refine⟨fun x hx=> ?_,by simp;omega⟩;rcases yi.1 hx with hx|hx
  ·exact h1 x hx
  ·exact .inr (by simpa using hx)
 ·rw[hd]at h2
  simp only[if_true]at h2⊢;exact⟨h1,h2⟩
theorem yA1{r x:RT}{o:List RT}(h:x.v<r.v):zP6 r (o,false) x=(o++[x],false):=by
 have h1:¬r.v<=x.v:=by omega
 have h2:¬x.v=r.v:=by omega
 simp[zP6,h1,h2]
theorem y91{r x:RT}{o:List RT}(h:x.v=r.v):zP6 r (o,false) x=(o++[r],true):=by simp[zP6,h]
theorem y94{r x:RT}{o:List RT}(h:r.v<x.v):zP6 r (o,false) x=(o++[r]++[x],true):=by
 have h1:r.v<=x.v:=by omega
 have h2:¬x.v=r.v:=by omega
 simp[zP6,h1,h2]
theorem yA3{r x:RT}{o:List RT}(h:x.v≠r.v):zP6 r (o,true) x=(o++[x],true):=by simp[zP6,h]
theorem y74{r x:RT}{o:List RT}(h:x.v=r.v):zP6 r (o,true) x=(o,true):=by simp[zP6,h]
theorem zq3{R S:List RT}{b:Nat}(h:S.map RT.key=R.map RT.key)(hi:∀r∈R,r.ids≠[]/\r.ids.length<=b):∀s∈S,s.ids≠[]/\s.ids.length<=b:=fun s hs=>by
 have h1:s.key∈R.map RT.key:=by rw[<-h];exact xP hs
 obtain⟨y,hy,e⟩:=yy.1 h1;have e2:y.ids=s.ids:=congrArg Prod.snd e;rw[<-e2];exact hi y hy
end Go.Proofs.YtkchnomkiboihaaGreat
namespace Go.Proofs.YtkchnomkiboihaaGreat
open Go.RowKit
open Q
def zm6(n:Int)(zs os vs:List Int)(ko kv:Nat)(r:RT):Int:=zr1 n zs (zd1 os ko r.ids) r.ids.length (zc2 vs kv r.v 1)
def zh7(n:Int)(zs os vs:List Int)(ko kv:Nat)(R:List RT)(z:Int):Nat->Int
 |0=>z
 |k+1=>zh7 n zs os vs ko kv R z k+zm6 n zs os vs ko kv (R.getD k rt0)
open Classical in
noncomputable def zw1(n:Int)(zs os vs:List Int)(ko kv:Nat)(fine:Int)(R:List RT)(L:List Int):Int:=
 if zc3 n zs os vs ko kv fine R L=0 then zh7 n zs os vs ko kv R (fine*L.length) R.length else -1
theorem y84{n:Int}{zs os vs:List Int}{ko kv:Nat}{fine:Int}{R:List RT}{k m:Nat}(hc:zc8 n zs os vs ko kv fine=true)(h:zi6 n zs os vs ko kv R m)(hk:k<m):0<=zm6 n zs os vs ko kv (R.getD k rt0)/\zm6 n zs os vs ko kv (R.getD k rt0)<=130000:=
 zw2 (zb3 hc).1 _ _ (zg3 (zf5 (zg6 (h k hk).2.2).1).2.2).1 _
theorem z37{n:Int}{zs os vs:List Int}{ko kv:Nat}{fine:Int}{R:List RT}{m:Nat}(hc:zc8 n zs os vs ko kv fine=true)(h:zi6 n zs os vs ko kv R m)(z:Int):∀k,k<=m->z<=zh7 n zs os vs ko kv R z k/\zh7 n zs os vs ko kv R z k<=z+130000*k
 |0,_=>by simp[zh7]
 |k+1,hk=>by
  have ih:=z37 hc h z k (by omega);have h1:=y84 hc h (show k<m by omega);simp only[zh7];omega
theorem yv8{n:Int}{zs os vs:List Int}{ko kv:Nat}{R:List RT}:∀{k:Nat},k<=R.length->zi6 n zs os vs ko kv R k->k<=(za8 R k).length
 |0,_,_=>yZ _
 |k+1,hk,h=>by
  have ih:=yv8 (k:=k) (by omega) (fun j hj=>h j (by omega));have h2:=(h k (by omega)).2.1;have h3:=xL.2 h2;rw[zf4 (by omega),xF];omega
theorem ze4{n:Int}{zs os vs:List Int}{ko kv:Nat}{fine:Int}{R:List RT}{L:List Int}(h:zc3 n zs os vs ko kv fine R L=0):R.length<=12/\L.length<=12/\0<=fine*L.length/\fine*L.length<=12000000:=by
 obtain⟨h1,h2,_,_,h5⟩:=zb5 h;have h6:=yv8 (zQ _) h2;have h7:=(zd9 (zb3 h1).2.1).1;obtain⟨_,_,_,_,h8,h9⟩:=zb3 h1;refine⟨by omega,by omega,Int.mul_nonneg h8 (by omega),?_⟩;have:=Int.mul_le_mul h9 (show(L.length:Int)<=12 by omega) (by omega) (by omega);omega
theorem zy5{n:Int}{zs os vs:List Int}{ko kv:Nat}{R S:List RT}(h:S.map RT.key=R.map RT.key)(z:Int):∀k,zh7 n zs os vs ko kv S z k=zh7 n zs os vs ko kv R z k
 |0=>rfl
 |k+1=>by
  simp only[zh7,zy5 h z k,zm6,(zL6 h k).1,(zL6 h k).2]
theorem zu1{n:Int}{zs os vs:List Int}{ko kv:Nat}{fine:Int}{R S:List RT}(L:List Int)(h:S.map RT.key=R.map RT.key):zw1 n zs os vs ko kv fine S L=zw1 n zs os vs ko kv fine R L:=by
 unfold zw1;rw[zd2 L h,zr5 h,zy5 h]
end Go.Proofs.YtkchnomkiboihaaGreat
namespace Go.Proofs.YtkchnomkiboihaaGreat
open Value renaming slice→za,int→zc
open IntKind renaming i64→zb
open Obj renaming cells→zd
open Go renaming World→zg
open Go.RowKit
open Q
def y89(R:List RT)(id:Int)(e:Ending):Prop:=
 (∃k,k<R.length/\(∀j,j<k->zB9 (R.getD j rt0).ids (R.getD j rt0).ids.length id<0)/\0<=zB9 (R.getD k rt0).ids (R.getD k rt0).ids.length id∧
   e=.returned (.tuple #[.agg #[zc zb (R.getD k rt0).v,.slice (R.getD k rt0).a (R.getD k rt0).ids.length (R.getD k rt0).c],zc zb (zB9 (R.getD k rt0).ids (R.getD k rt0).ids.length id),.bool true]))∨
 ((∀j,j<R.length->zB9 (R.getD j rt0).ids (R.getD j rt0).ids.length id<0)/\e=.returned (.tuple #[.agg #[zc zb 0,za none 0 0],zc zb 0,.bool false]))
theorem zL2(ra la:Option Addr)(rc ln lc:Nat)(R:List RT)(id:Int)(w:zg)(hA:za9 w ra R)(hn:R.length<=1048576)(hl:∀j,j<R.length->(R.getD j rt0).ids.length<=1048576):
 Calls Tryz.prog 143 #[.agg #[za ra R.length rc,za la ln lc],zc zb id] w fun e w'=>y89 R id e/\Below w.heap.size w w':=by
 have HA:=za4 hA;have HL:Hid _:=hl;clear hA hl;obtain⟨n,HN⟩:=nmd R.length;rw[HN.X]at hn⊢;have G0:Hid ((w.alloc (zd #[za ra n rc,za la ln lc] 33)).heap[w.heap.size]? =some (zd #[za ra n rc,za la ln lc] 33 (0,0))):=zN _ _;have B0:Hid (Below w.heap.size w (w.alloc (zd #[za ra n rc,za la ln lc] 33))):=zK _;go_enter Tryz.func143,Tryz.ntmps143;obtain⟨c0,c1⟩:=za1 G0.X
 go_wp2_with fail
 clear c0 c1;have G1:Hid (((w.alloc (zd #[za ra n rc,za la ln lc] 33)).alloc (zd #[zc zb 0,za none 0 0] 80)).heap[w.heap.size+1]? =some (zd #[zc zb 0,za none 0 0] 80 (0,0))):=y8 _ _ _;have B1:Hid (Below w.heap.size w ((w.alloc (zd #[za ra n rc,za la ln lc] 33)).alloc (zd #[zc zb 0,za none 0 0] 80))):=B0.alloc B0.size _;generalize(w.alloc (zd #[za ra n rc,za la ln lc] 33)).alloc (zd #[zc zb 0,za none 0 0] 80)=W0 at*;go_loopw[13] (fun t wr=>∃k:Nat,k<=n/\t=zc zb k/\Below w.heap.size w wr/\wr.heap[w.heap.size+1]? =some (zd #[zc zb 0,za none 0 0] 80 (0,0))/\∀j,j<k->zB9 (R.getD j rt0).ids (R.getD j rt0).ids.length id<0) (fun t _=>n - (intOf t).toNat)
 case atStart=>exact⟨0,yZ _,rfl,B1.X,G1.X,fun j h=>absurd h (Nat.not_lt_zero _)⟩
 case round=>
  clear G0 B0 G1 B1;obtain⟨k,hk,rfl,hb,hg,hj⟩:=hrel;have B2:Hid _:=hb;have G2:Hid _:=hg;have HJ:Hid _:=hj;clear hb hg hj;by_cases hlt:k<n
  ·have hkn:(k:Int)<n:=by omega
   have hkR:k<R.length:=by rw[HN.X];exact hlt
   obtain⟨b,off,e,c1,c2,i3⟩:=(HA.below B2.X) k hkR;have hll:=HL.X k hkR;have HYES:Hid (0<=zB9 (R.getD k rt0).ids (R.getD k rt0).ids.length id->y89 R id (.returned (.tuple #[.agg #[zc zb (R.getD k rt0).v,.slice (R.getD k rt0).a (R.getD k rt0).ids.length (R.getD k rt0).c],zc zb (zB9 (R.getD k rt0).ids (R.getD k rt0).ids.length id),.bool true]))):=fun h=>.inl ⟨k,hkR,HJ.X,h,rfl⟩;have HNO:Hid (zB9 (R.getD k rt0).ids (R.getD k rt0).ids.length id<0->∀j,j<k+1->zB9 (R.getD j rt0).ids (R.getD j rt0).ids.length id<0):=fun h j hj=>by
    rcases Nat.lt_succ_iff_lt_or_eq.1 hj with h1|h1
    ·exact HJ.X j h1
    ·rw[h1];exact h
   subst e;generalize R.getD k rt0=r at*;obtain⟨rv,rra,rids,rcc⟩:=r;simp only at c1 c2 i3 hll HYES HNO;have I3:=za4 i3;clear i3;obtain⟨x,HX⟩:=nmd (zB9 rids rids.length id);have C:=zY3 rra rids.length rcc id rids (wr.alloc (zd #[zc zb rv,za rra rids.length rcc] 80)) (I3.below (zK _)) (zQ _) (by omega);rw[HX.X]at C HYES HNO;have B3:Hid (Below w.heap.size w (wr.alloc (zd #[zc zb rv,za rra rids.length rcc] 80))):=B2.alloc B2.size _;have G3:Hid ((wr.alloc (zd #[zc zb rv,za rra rids.length rcc] 80)).heap[w.heap.size+1]? =some (zd #[zc zb 0,za none 0 0] 80 (0,0))):=(yY _ _ (za2 G2.X)).trans G2.X;obtain⟨z0,z1⟩:=za1 G3.X;have zf:=fun i=>yU _ _ i _ _ G3.X;by_cases hx:0<=x
   ·go_wp2_with(first
     |(go_at_call 168
       go_must(refine C.mono ?_)
       rintro e w' ⟨rfl,rfl⟩))
    refine yX (v:=.tuple #[.agg #[zc zb rv,za rra rids.length rcc],zc zb x,.bool true]) (by simp[results,Tryz.results143,go_sem,z0,z1]) rfl ⟨HYES.X hx,?_⟩
    repeat(first|with_reducible exact B3.X|refine xd ?_ (by simp<;>omega) _)
   ·go_wp2_with(first
     |(go_at_call 168
       go_must(refine C.mono ?_)
       rintro e w' ⟨rfl,rfl⟩))
    clear c1 c2 z0 z1 zf;go_roundw
    case rel=>exact⟨k+1,by omega,by first|rfl|go_num,B3.X,G3.X,HNO.X (by omega)⟩
    case measure=>simp[intOf];omega
  ·have hkn:k=n:=by omega
   subst hkn;obtain⟨z0,z1⟩:=za1 G2.X;have zf:=fun i=>yU _ _ i _ _ G2.X;go_wp2;refine yX (v:=.tuple #[.agg #[zc zb 0,za none 0 0],zc zb 0,.bool false]) (by simp[results,Tryz.results143,go_sem,z0,z1]) rfl ⟨.inr ⟨by rw[HN.X];exact HJ.X,rfl⟩,?_⟩
   repeat(first|with_reducible exact B2.X|refine xd ?_ (by simp<;>omega) _)
structure GQ(w W:zg)(cs ps:Array Value):Prop where
 b:Below w.heap.size w W
 c:W.heap[w.heap.size]? =some (.cells cs 30 (0,0))
 p:W.heap[w.heap.size+1]? =some (.cells ps 33 (0,0))
 o:W.heap[w.heap.size+2]? =some (zd #[za none 0 0,za none 0 0] 33 (0,0))
theorem GQ.below{w W W':zg}{cs ps:Array Value}(h:GQ w W cs ps)(hb:Below W.heap.size W W'):GQ w W' cs ps:=
 ⟨h.b.trans (hb.mono h.b.size),za0 hb (za2 h.c) h.c,za0 hb (za2 h.p) h.p,za0 hb (za2 h.o) h.o⟩
theorem GQ.size{w W:zg}{cs ps:Array Value}(h:GQ w W cs ps):w.heap.size+3<=W.heap.size:=za2 h.o
theorem GQ.set{w W:zg}{cs ps:Array Value}(h:GQ w W cs ps){k i:Nat}{v:Value}(hk:w.heap.size+3<=k):GQ w (W.setCell ⟨k,i,none⟩ v) cs ps:=
 ⟨h.b.setCell (by simp;omega) _,za6 h.c (by omega),za6 h.p (by omega),za6 h.o (by omega)⟩
def zb8(w:zg)(ra la:Option Addr)(rn ln:Nat)(R:List RT)(L:List Int):Prop:=R.length=rn/\L.length=ln/\za9 w ra R/\za3 w la L/\((ra=none/\rn=0)∨∃b off,ra=some ⟨b,off,none⟩)/\((la=none/\ln=0)∨∃b off,la=some ⟨b,off,none⟩)/\(∀r∈R,r.ids.length<=r.c)
theorem zb8.below{w w':zg}{ra la:Option Addr}{rn ln:Nat}{R:List RT}{L:List Int}(h:zb8 w ra la rn ln R L)(hb:Below w.heap.size w w'):zb8 w' ra la rn ln R L:=
 ⟨h.1,h.2.1,h.2.2.1.below hb,h.2.2.2.1.below hb,h.2.2.2.2⟩
def Off(k:Nat)(ra la:Option Addr)(R:List RT):Prop:=(∀b off,ra=some ⟨b,off,none⟩->b≠k)/\(∀b off,la=some ⟨b,off,none⟩->b≠k)/\∀r∈R,∀b off,r.a=some ⟨b,off,none⟩->b≠k
theorem z51{w:zg}{k i b o:Nat}{u v:Value}(h:w.cell? ⟨b,o,none⟩=some v)(hb:b≠k):(w.setCell ⟨k,i,none⟩ u).cell? ⟨b,o,none⟩=some v:=za5 h hb
def zj0(k:Nat)(ra la:Option Addr)(R:List RT)(L:List Int):Prop:=(R≠[]->∀b off,ra=some ⟨b,off,none⟩->b≠k)/\(L≠[]->∀b off,la=some ⟨b,off,none⟩->b≠k)/\∀r∈R,r.ids≠[]->∀b off,r.a=some ⟨b,off,none⟩->b≠k
theorem zr8{α:Type}{l:List α}{j:Nat}(h:j<l.length):l≠[]:=fun e=>by subst e;exact absurd h (Nat.not_lt_zero _)
theorem zX9{w:zg}{k i:Nat}{u:Value}{a:Option Addr}{xs:List Int}(h:za3 w a xs)(hb:xs≠[]->∀b off,a=some ⟨b,off,none⟩->b≠k):za3 (w.setCell ⟨k,i,none⟩ u) a xs:=fun j hj=>by
 obtain⟨b,off,e,h1⟩:=h j hj;exact⟨b,off,e,z51 h1 (hb (zr8 hj) b off e)⟩
theorem zb8.offL{w:zg}{k i:Nat}{u:Value}{ra la:Option Addr}{rn ln:Nat}{R:List RT}{L:List Int}(h:zb8 w ra la rn ln R L)(ho:zj0 k ra la R L):zb8 (w.setCell ⟨k,i,none⟩ u) ra la rn ln R L:=by
 refine⟨h.1,h.2.1,fun j hj=> ?_,zX9 h.2.2.2.1 ho.2.1,h.2.2.2.2⟩;obtain⟨b,off,e,h1,h2,h3⟩:=h.2.2.1 j hj;have hm:R.getD j rt0∈R:=by rw[zM,zO hj];simp
 have hne:=zr8 hj;exact⟨b,off,e,z51 h1 (ho.1 hne b off e),z51 h2 (ho.1 hne b off e),zX9 h3 (ho.2.2 _ hm)⟩
theorem yi4{w:zg}{k:Nat}{a:Option Addr}{xs:List Int}(h:za3 w a xs)(hk:w.heap.size<=k)(hne:xs≠[]):∀b off,a=some ⟨b,off,none⟩->b≠k:=fun b off e=>by
 obtain⟨b2,off2,e2,h1⟩:=h 0 (xL.2 hne);rw[e]at e2
 injection e2 with e2
 injection e2 with e2 _ _
 have:=zT h1;simp only at this;omega
theorem zb8.far{w:zg}{k:Nat}{ra la:Option Addr}{rn ln:Nat}{R:List RT}{L:List Int}(h:zb8 w ra la rn ln R L)(hk:w.heap.size<=k):zj0 k ra la R L:=by
 refine⟨fun hne b off e=> ?_,yi4 h.2.2.2.1 hk,fun r hr hne=> ?_⟩
 ·obtain⟨b2,off2,e2,h1,_⟩:=h.2.2.1 0 (xL.2 hne)
  rw[e]at e2
  injection e2 with e2
  injection e2 with e2 _ _
  have:=zT h1;simp only at this;omega
 ·obtain⟨j,hj,rfl⟩:∃j,j<R.length/\R.getD j rt0=r:=by
   obtain⟨j,hj,e⟩:=xK hr;exact⟨j,hj,by rw[zM,zO hj,<-e];rfl⟩
  obtain⟨_,_,_,_,_,h3⟩:=h.2.2.1 j hj;exact yi4 h3 hk hne
def Apt(S:List RT)(la:Option Addr):Prop:=(la::S.map RT.a).Pairwise (fun x y=>x=none∨x≠y)
theorem Apt.keys{S T:List RT}{la:Option Addr}(h:Apt S la)(e:T.map RT.a=S.map RT.a):Apt T la:=by unfold Apt at h⊢;rw[e];exact h
theorem Apt.left{S:List RT}{la:Option Addr}(h:Apt S la){t:RT}(ht:t∈S):la=none∨la≠t.a:=(yp.1 h).1 t.a (xP ht)
theorem Apt.head{P Q:List RT}{s t:RT}{la:Option Addr}(h:Apt (P++s::Q) la)(ht:t∈P):t.a=none∨t.a≠s.a:=by
 have h1:=(yp.1 h).2;rw[xH,xw]at h1;exact(xO.1 h1).2.2 t.a (xP ht) s.a (by simp)
theorem Apt.tail{P Q:List RT}{s t:RT}{la:Option Addr}(h:Apt (P++s::Q) la)(ht:t∈Q):s.a=none∨s.a≠t.a:=by
 have h1:=(yp.1 h).2;rw[xH,xw]at h1;exact(yp.1 (xO.1 h1).2.1).1 t.a (xP ht)
