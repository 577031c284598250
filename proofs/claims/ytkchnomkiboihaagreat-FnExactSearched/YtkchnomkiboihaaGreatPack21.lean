import Derived.Test.YtkchnomkiboihaaGreatPack18
import Derived.Test.YtkchnomkiboihaaGreatPack20
set_option linter.unusedSimpArgs false
namespace Go.Proofs.YtkchnomkiboihaaGreat
theorem qM:type_of% @List.flatMap_cons:=@List.flatMap_cons
theorem qN:type_of% @List.perm_append_right_iff:=@List.perm_append_right_iff
theorem qO:type_of% @List.Perm.append_left:=@List.Perm.append_left
open Go.RowKit
open Q
def lvR(R:List RT)(id:Int):List RT:=(R.map fun r=>{r with ids:=cutP r.ids id}).filter fun r=>decide (r.ids≠[])
theorem zQ0(A B:List RT)(id:Int):lvR (A++B) id=lvR A id++lvR B id:=by simp[lvR]
theorem yg5:∀(R:List RT) (id:Int),(∀r∈R,id∉r.ids/\r.ids≠[])->lvR R id=R
 |[],_,_=>rfl
 |r::R,id,h=>by
  have h1:=h r (ym ..);have h2:=yg5 R id (fun x hx=>h x (yh _ hx));have e:({r with ids:=cutP r.ids id}:RT)=r:=by rw[yj2 h1.1]
  unfold lvR at*;rw[xw,e,yv (by simpa using h1.2),h2]
theorem y59(A B:List Int)(id:Int):cutP (A++B) id=cutP A id++cutP B id:=by simp[cutP]
theorem yw9:∀(R:List RT) (id:Int),(lvR R id).flatMap RT.ids=cutP (R.flatMap RT.ids) id
 |[],_=>rfl
 |r::R,id=>by
  rw[qM,y59,<-yw9 R id,<-List.singleton_append,zQ0,xN]
  congr 1
  unfold lvR;by_cases h:cutP r.ids id=[]
  ·rw[xw,List.map_nil,qF (by simpa using h),h];rfl
  ·rw[xw,List.map_nil,yv (by simpa using h)];simp
theorem zb6(R:List RT):za8 R R.length=R.flatMap RT.ids:=by unfold za8;rw[yc]
theorem yc3(R:List RT)(id:Int):za8 (lvR R id) (lvR R id).length=cutP (za8 R R.length) id:=by rw[zb6,zb6,yw9]
theorem yv4{R:List RT}{id:Int}{r:RT}(h:r∈lvR R id):r.ids≠[]:=zX (qD.1 h).2
theorem zR4(R:List RT)(id:Int):(lvR R id).length<=R.length:=by
 have:=yj (fun r:RT=>decide (r.ids≠[])) (R.map fun r=>{r with ids:=cutP r.ids id});rw[qn]at this;exact this
theorem zT8{R:List RT}{id:Int}{m:Nat}(h:∀r∈R,r.ids.length<=m):∀r∈lvR R id,r.ids.length<=m:=fun r hr=>by
 obtain⟨x,hx,rfl⟩:=yy.1 (qD.1 hr).1;exact y7 (yt4 _ _) (h x hx)
theorem zf0{R:List RT}(h:R.Pairwise (fun a b=>a.v<b.v)):zg1 R:=fun j h1 h2=>by
 have h3:=(yr.1 h) (j - 1) j (by omega) h2 (by omega);simpa[zM,zO h2,zO (show j - 1<R.length by omega)]using h3
theorem z53{R:List RT}(h:zg1 R)(id:Int):zg1 (lvR R id):=
 zf0 (List.Pairwise.filter _ (List.pairwise_map.2 h.pw))
theorem z63{R:List RT}{k:Nat}(hk:k<R.length):R=R.take k++(R.getD k rt0::R.drop (k+1)):=by
 conv=>lhs;rw[<-qH k R]
 rw[List.drop_eq_getElem_cons hk];simp[zM,hk]
theorem y48{R:List RT}{k:Nat}(hS:zg1 R)(hk:k<R.length):y26 R (R.getD k rt0).v k:=
 ⟨by omega,fun j hj=>by
   have:=hS.lt (k - j - 1) j (by omega);rw[show j+(k - j - 1)+1=k by omega]at this;exact this,fun j h1 h2=>hS.le h1 h2⟩
theorem yE3{R:List RT}{k:Nat}(hS:zg1 R)(hk:k<R.length)(a:Option Addr)(M:List Int)(c:Nat):wrL R ⟨(R.getD k rt0).v,a,M,c⟩=R.take k++((if M=[]then []else [⟨(R.getD k rt0).v,a,M,c⟩])++R.drop (k+1)):=by
 have h:=y98 (r:=⟨(R.getD k rt0).v,a,M,c⟩) hS (y48 hS hk);have e:yr7 R (R.getD k rt0).v k=1:=by unfold yr7 yn9;rw[zV (zS ⟨hk,rfl⟩)]
 simp only[e]at h;exact h
theorem y45{R:List RT}{k:Nat}{id:Int}(hk:k<R.length)(hne:∀r∈R,r.ids≠[])(hnd:(za8 R R.length).Nodup)(hid:id∈(R.getD k rt0).ids):lvR R id=R.take k++((if cutP (R.getD k rt0).ids id=[]then []else [{R.getD k rt0 with ids:=cutP (R.getD k rt0).ids id}])++R.drop (k+1)):=by
 have hs:=z63 hk;rw[zb6]at hnd;generalize R.getD k rt0=r at*;generalize R.take k=A at*;generalize R.drop (k+1)=B at*;subst hs;rw[xN,qM,yB]at hnd;obtain⟨_,h2,h3⟩:=hnd;rw[yB]at h2;obtain⟨_,_,h4⟩:=h2;have hA:∀x∈A,id∉x.ids/\x.ids≠[]:=fun x hx=>⟨fun e=>h3 id (qG.2 ⟨x,hx,e⟩) id (qJ _ hid) rfl,hne x (qJ _ hx)⟩;have hB:∀x∈B,id∉x.ids/\x.ids≠[]:=fun x hx=>⟨fun e=>h4 id hid id (qG.2 ⟨x,hx,e⟩) rfl,hne x (List.mem_append_right _ (yh _ hx))⟩;rw[<-List.singleton_append,zQ0,zQ0,yg5 A id hA,yg5 B id hB]
 congr 2
 unfold lvR;by_cases h:cutP r.ids id=[]
 ·rw[xw,List.map_nil,qF (by simpa using h),zV h];rfl
 ·rw[xw,List.map_nil,yv (by simpa using h),zW h];rfl
theorem zt6{R:List RT}{k:Nat}(hk:k<R.length)(hnd:(za8 R R.length).Nodup):(R.getD k rt0).ids.Nodup:=by
 rw[zb6]at hnd;have hs:=z63 hk;rw[hs,xN,qM]at hnd;exact(yB.1 (yB.1 hnd).2.1).1
theorem zy0(l:List Int)(i:Nat)(h:i<l.length):l.getD i 0∈l:=by
 rw[zM,zO h];exact List.getElem_mem _
theorem zM3{R:List RT}{k at_:Nat}{id:Int}(hS:zg1 R)(hk:k<R.length)(hne:∀r∈R,r.ids≠[])(hnd:(za8 R R.length).Nodup)(hin:at_<(R.getD k rt0).ids.length)(hid:(R.getD k rt0).ids.getD at_ 0=id)(a:Option Addr)(c:Nat):(wrL R ⟨(R.getD k rt0).v,a,zk9 (R.getD k rt0).ids at_,c⟩).map RT.key=(lvR R id).map RT.key:=by
 have hm:id∈(R.getD k rt0).ids:=by
  rw[<-hid];exact zy0 _ _ hin
 have e:zk9 (R.getD k rt0).ids at_=cutP (R.getD k rt0).ids id:=by rw[<-hid,zQ9 (zt6 hk hnd) hin]
 rw[yE3 hS hk,y45 hk hne hnd hm,e];generalize cutP (R.getD k rt0).ids id=M;by_cases h:M=[]
 ·rw[zV h,zV h]
 ·rw[zW h,zW h]
  simp[RT.key]
theorem yo1{R:List RT}{k:Nat}{id:Int}(hS:zg1 R)(hk:k<R.length)(hne:∀r∈R,r.ids≠[])(hnd:(za8 R R.length).Nodup)(hm:id∈(R.getD k rt0).ids)(hc:cutP (R.getD k rt0).ids id≠[])(a:Option Addr)(c:Nat):(zK9 R ⟨(R.getD k rt0).v,a,cutP (R.getD k rt0).ids id,c⟩).map RT.key=(lvR R id).map RT.key:=by
 rw[z39 hS hc,yE3 hS hk,y45 hk hne hnd hm,zW hc,zW hc];simp[RT.key]
theorem yr1{R:List RT}{k:Nat}{id:Int}(hS:zg1 R)(hk:k<R.length)(hne:∀r∈R,r.ids≠[])(hnd:(za8 R R.length).Nodup)(hm:id∈(R.getD k rt0).ids)(hc:cutP (R.getD k rt0).ids id=[]):R.filter (fun x=>decide (x.v≠(R.getD k rt0).v))=lvR R id:=by
 rw[y45 hk hne hnd hm,zV hc,yo];have hp:=hS.pw;have hs:=z63 hk;generalize R.getD k rt0=r at*;generalize R.take k=A at*;generalize R.drop (k+1)=B at*;subst hs;obtain⟨_,h2,h3⟩:=xO.1 hp;obtain⟨h4,_⟩:=yp.1 h2;rw[yE,qF (by simp)]
 congr 1
 ·exact yu.2 (fun x hx=>zS (by have:=h3 x hx r (ym ..);omega))
 ·exact yu.2 (fun x hx=>zS (by have:=h4 x hx;omega))
theorem y77{L:List Int}{x:Int}{k:Nat}(h:AtI L x k):insL L k x=zz7 L x:=zP9 L x k h.le h.lo (fun hk hn=>by have:=h.hi k (zQ _) hk;omega)
theorem yh7{L:List Int}(h:L.Pairwise (· <·)):UpI L:=fun i j hij hj=>by
 by_cases e:i=j
 ·rw[e];exact Int.le_refl _
 ·have:=y17 h (show i<j by omega) hj
  omega
def pkd(S P:List Int)(j:Nat):Int:=S.getD (P.getD j 0).toNat 0
theorem yw8{R R':List RT}(h:R'.map RT.key=R.map RT.key){r:RT}(hr:r∈R'):∃x∈R,x.key=r.key:=by
 have:r.key∈R.map RT.key:=by rw[<-h];exact yy.2 ⟨r,hr,rfl⟩
 obtain⟨x,hx,e⟩:=yy.1 this;exact⟨x,hx,e⟩
theorem z33{R R':List RT}(h:R'.map RT.key=R.map RT.key):R'.flatMap RT.ids=R.flatMap RT.ids:=by
 have e:∀X:List RT,X.flatMap RT.ids=(X.map RT.key).flatMap Prod.snd:=fun X=>by rw[List.flatMap_map];rfl
 rw[e,e,h]
theorem yA0{R R':List RT}(h:R'.map RT.key=R.map RT.key)(hp:R.Pairwise (fun a b=>a.v<b.v)):R'.Pairwise (fun a b=>a.v<b.v):=by
 have e:∀X:List RT,X.Pairwise (fun a b=>a.v<b.v)↔(X.map RT.key).Pairwise (fun a b=>a.1<b.1):=fun X=>by rw[List.pairwise_map];rfl
 rw[e,h,<-e];exact hp
theorem zG5{R R':List RT}(h:R'.map RT.key=R.map RT.key)(id:Int):(lvR R' id).map RT.key=(lvR R id).map RT.key:=by
 have e:∀X:List RT,(lvR X id).map RT.key=((X.map RT.key).map (fun p=>(p.1,cutP p.2 id))).filter (fun p=>decide (p.2≠[])):=fun X=>by
  induction X with
  |nil=>rfl
  |cons r X ih=>
   rw[<-List.singleton_append,zQ0,xX,ih,xX,xX,yE]
   congr 1
   unfold lvR;by_cases hc:cutP r.ids id=[]<;>simp[RT.key,hc]
 rw[e,e,h]
structure LvI(S P:List Int)(l0 i:Nat)(R:List RT)(L:List Int):Prop where
 rs:zg1 R
 ne:∀r∈R,r.ids≠[]
 nd:(za8 R R.length).Nodup
 sm:∀r∈R,r.ids.length<=12
 ln:R.length<=100
 up:L.Pairwise (· <·)
 ll:L.length=l0+i
 mm:∀j,i<=j->j<P.length->pkd S P j∈za8 R R.length
 nl:∀x∈za8 R R.length,x∉L
theorem LvI.key{S P:List Int}{l0 i:Nat}{R R':List RT}{L:List Int}(h:LvI S P l0 i R L)(hk:R'.map RT.key=R.map RT.key):LvI S P l0 i R' L:=by
 have ea:za8 R' R'.length=za8 R R.length:=by rw[zb6,zb6,z33 hk]
 have el:R'.length=R.length:=by have:=congrArg List.length hk;simpa using this
 refine⟨zf0 (yA0 hk h.rs.pw),fun r hr=> ?_,by rw[ea];exact h.nd,fun r hr=> ?_,by rw[el];exact h.ln,h.up,h.ll,fun j h1 h2=>by rw[ea];exact h.mm j h1 h2,fun x hx=>h.nl x (by rw[<-ea];exact hx)⟩
 ·obtain⟨x,hx,e⟩:=yw8 hk hr
  have:x.ids=r.ids:=congrArg Prod.snd e;rw[<-this];exact h.ne x hx
 ·obtain⟨x,hx,e⟩:=yw8 hk hr
  have:x.ids=r.ids:=congrArg Prod.snd e;rw[<-this];exact h.sm x hx
theorem LvI.step{S P:List Int}{l0 i:Nat}{R:List RT}{L:List Int}(hd:∀i j,i<j->j<P.length->pkd S P i≠pkd S P j)(h:LvI S P l0 i R L)(hi:i<P.length):LvI S P l0 (i+1) (lvR R (pkd S P i)) (zz7 L (pkd S P i)):=by
 have hx:=h.mm i (zQ _) hi;refine⟨z53 h.rs _,fun r hr=>yv4 hr,?_,zT8 h.sm,y7 (zR4 _ _) h.ln,zH1 L _ h.up (h.nl _ hx),by rw[z43,h.ll];omega,fun j h1 h2=> ?_,fun x hx2 hm=> ?_⟩
 ·rw[yc3]
  exact List.Pairwise.filter _ h.nd
 ·rw[yc3]
  refine qD.2 ⟨h.mm j (by omega) h2,?_⟩;have:=hd i j (by omega) h2;simp;exact fun e=>this e.symm
 ·rw[yc3]at hx2
  obtain⟨h1,h2⟩:=qD.1 hx2;rcases(zz3 L _ x).1 hm with e|e
  ·simp at h2;exact h2 e
  ·exact h.nl x h1 e
theorem zt5{l:List Int}{x:Int}(h:x∈l):∃i,i<l.length/\l.getD i 0=x:=by
 obtain⟨i,hi,e⟩:=xK h;exact⟨i,hi,by rw[zM,zO hi,e];rfl⟩
theorem zt2{l:List Int}(h:l.Nodup){i j:Nat}(hij:i<j)(hj:j<l.length):l.getD i 0≠l.getD j 0:=by
 have:=(yr.1 h) i j (by omega) hj hij;simpa[zM,zO hj,zO (show i<l.length by omega)]using this
theorem LvI.at{S P:List Int}{l0 i:Nat}{R:List RT}{L:List Int}(h:LvI S P l0 i R L){x:Int}(hx:x∈za8 R R.length):
 ∃k at_:Nat,k<R.length/\(∀j,j<k->zB9 (R.getD j rt0).ids (R.getD j rt0).ids.length x<0)/\zB9 (R.getD k rt0).ids (R.getD k rt0).ids.length x=at_/\at_<(R.getD k rt0).ids.length/\(R.getD k rt0).ids.getD at_ 0=x:=by
 have hx':=hx;rw[zb6]at hx';obtain⟨r,hr,hxr⟩:=qG.1 hx';obtain⟨k,hk,e⟩:=zo5 hr;rw[<-e]at hxr;obtain⟨a,ha,ea⟩:=zt5 hxr;have hn:=zt6 hk h.nd;refine⟨k,a,hk,fun j hj=> ?_,?_,ha,ea⟩
 ·have hnd:=h.nd
  rw[zb6]at hnd;have hs:=z63 hk;rw[hs,xN,qM,yB]at hnd;have hno:x∉(R.getD j rt0).ids:=fun hm=>by
   have hjm:R.getD j rt0∈R.take k:=by
    rw[zM,zO (show j<R.length by omega)];exact List.mem_take_iff_getElem.2 ⟨j,by omega,rfl⟩
   exact hnd.2.2 x (qG.2 ⟨_,hjm,hm⟩) x (qJ _ hxr) rfl
  rw[zH2 (fun t ht e9=>hno (by rw[<-e9];exact zy0 _ _ ht))];omega
 ·exact zQ5 ha ea (fun j hj e9=>zt2 hn hj ha (by rw[e9,ea]))
theorem ya3(x:RT)(R:List RT)(v:Int):zc6 (x::R) v=if x.v=v then x else zc6 R v:=by
 unfold zc6;by_cases h:x.v=v
 ·rw[zV h,List.find?_cons_of_pos (by simp[h])];rfl
 ·rw[zW h,List.find?_cons_of_neg (by simp[h])]
theorem zn4:∀{R:List RT} {v:Int},(∀x∈R,x.v≠v)->zc6 R v=⟨v,none,[],0⟩
 |[],_,_=>rfl
 |x::R,v,h=>by
  rw[ya3,zW (h x (ym ..))];exact zn4 (fun y hy=>h y (yh _ hy))
theorem zf7:∀{R:List RT} {x:RT},R.Pairwise (fun a b=>a.v<b.v)->x∈R->zc6 R x.v=x
 |y::R,x,hp,hx=>by
  rw[ya3];obtain⟨h1,h2⟩:=yp.1 hp;rcases yn.1 hx with e|hx
  ·subst e;rw[zV rfl]
  ·have:=h1 x hx
   rw[zW (by omega)];exact zf7 h2 hx
theorem yb6:∀{R:List RT} (_:R.Pairwise (fun a b=>a.v<b.v)) (v:Int),∃E,R=R.filter (fun x=>decide (x.v<v))++(E++R.filter (fun x=>decide (v<x.v)))/\((E=[]/\∀x∈R,x.v≠v)∨∃x,E=[x]/\x.v=v/\x∈R)
 |[],_,_=>⟨[],rfl,.inl ⟨rfl,fun x hx=>by cases hx⟩⟩
 |x::R,hp,v=>by
  obtain⟨h1,h2⟩:=yp.1 hp;rcases Int.lt_trichotomy x.v v with h|h|h
  ·obtain⟨E,he,hE⟩:=yb6 h2 v
   refine⟨E,?_,?_⟩
   ·rw[yv (p:=fun x:RT=>decide (x.v<v)) (zS h),qF (p:=fun x:RT=>decide (v<x.v)) (fun h9=>by have:=zX h9;omega),yR,<-he]
   ·rcases hE with⟨e,hn⟩|⟨y,e,hy,hm⟩
    ·exact .inl ⟨e,fun z hz=>by
      rcases yn.1 hz with e9|hz
      ·subst e9;omega
      ·exact hn z hz⟩
    ·exact .inr ⟨y,e,hy,yh _ hm⟩
  ·have hlo:R.filter (fun x=>decide (x.v<v))=[]:=qI.2 (fun y hy h9=>by have:=zX h9;have:=h1 y hy;omega)
   have hhi:R.filter (fun x=>decide (v<x.v))=R:=yu.2 (fun y hy=>zS (by have:=h1 y hy;omega));refine⟨[x],?_,.inr ⟨x,rfl,h,ym ..⟩⟩;rw[qF (p:=fun x:RT=>decide (x.v<v)) (fun h9=>by have:=zX h9;omega),qF (p:=fun x:RT=>decide (v<x.v)) (fun h9=>by have:=zX h9;omega),hlo,hhi];rfl
  ·have hlo:(x::R).filter (fun x=>decide (x.v<v))=[]:=qI.2 (fun y hy h9=>by
    have:=zX h9;rcases yn.1 hy with e|hy
    ·subst e;omega
    ·have:=h1 y hy;omega)
   have hall:∀y∈x::R,v<y.v:=fun y hy=>by
    rcases yn.1 hy with e|hy
    ·subst e;exact h
    ·have:=h1 y hy;omega
   have hhi:=yu.2 (fun y hy=>zS (hall y hy));refine⟨[],?_,.inl ⟨rfl,fun y hy=>by have:=hall y hy;omega⟩⟩;rw[hlo,hhi];rfl
theorem zx9{R:List RT}{r x:RT}:x∈wrL R r↔(x∈R/\x.v≠r.v)∨(x=r/\r.ids≠[]):=by
 unfold wrL;rw[yi,yi,qD,qD];by_cases h:r.ids=[]
 ·simp[h]
  constructor
  ·rintro(⟨h1,h2⟩|⟨h1,h2⟩)
   ·exact⟨h1,by omega⟩
   ·exact⟨h1,by omega⟩
  ·rintro⟨h1,h2⟩
   by_cases h3:x.v<r.v
   ·exact .inl ⟨h1,h3⟩
   ·exact .inr ⟨h1,by omega⟩
 ·simp[h]
  constructor
  ·rintro(⟨h1,h2⟩|h1|⟨h1,h2⟩)
   ·exact .inl ⟨h1,by omega⟩
   ·exact .inr h1
   ·exact .inl ⟨h1,by omega⟩
  ·rintro(⟨h1,h2⟩|h1)
   ·by_cases h3:x.v<r.v
    ·exact .inl ⟨h1,h3⟩
    ·exact .inr (.inr ⟨h1,by omega⟩)
   ·exact .inr (.inl h1)
theorem zM2{R:List RT}{r:RT}(hp:R.Pairwise (fun a b=>a.v<b.v)):(wrL R r).Pairwise (fun a b=>a.v<b.v):=by
 unfold wrL;rw[xO,xO];refine⟨hp.filter _,⟨?_,hp.filter _,fun a ha b hb=> ?_⟩,fun a ha b hb=> ?_⟩
 ·split<;>simp
 ·have h2:=zX (qD.1 hb).2
  split at ha
  ·cases ha
  ·have:a=r:=by simpa using ha
   rw[this];exact h2
 ·have h1:=zX (qD.1 ha).2
  rcases yi.1 hb with h|h
  ·split at h
   ·cases h
   ·have:b=r:=by simpa using h
    rw[this];exact h1
  ·have h2:=zX (qD.1 h).2
   omega
theorem z12{R:List RT}{r:RT}(hp:R.Pairwise (fun a b=>a.v<b.v))(v:Int):(v=r.v->(zc6 (wrL R r) v).ids=r.ids)/\(v≠r.v->zc6 (wrL R r) v=zc6 R v):=by
 have hq:=zM2 (r:=r) hp;refine⟨fun e=> ?_,fun hv=> ?_⟩
 ·subst e
  by_cases h:r.ids=[]
  ·rw[zn4 (fun x hx=> ?_),h]
   rcases zx9.1 hx with⟨_,h2⟩|⟨_,h2⟩
   ·exact h2
   ·exact absurd h h2
  ·rw[zf7 hq (zx9.2 (.inr ⟨rfl,h⟩))]
 ·by_cases hm:∃x∈R,x.v=v
  ·obtain⟨x,hx,e⟩:=hm
   subst e;rw[zf7 hp hx,zf7 hq (zx9.2 (.inl ⟨hx,hv⟩))]
  ·have hn:∀x∈R,x.v≠v:=fun x hx e=>hm ⟨x,hx,e⟩
   rw[zn4 hn,zn4 (fun x hx=> ?_)];rcases zx9.1 hx with⟨h1,_⟩|⟨h1,_⟩
   ·exact hn x h1
   ·rw[h1];exact fun e=>hv e.symm
theorem yb1{R:List RT}{r:RT}(f:RT->Int)(hp:R.Pairwise (fun a b=>a.v<b.v))(hr:r.ids=[]->f r=0)(h0:f ⟨r.v,none,[],0⟩=0):((wrL R r).map f).sum=(R.map f).sum - f (zc6 R r.v)+f r:=by
 obtain⟨E,he,hE⟩:=yb6 hp r.v;have h1:(R.map f).sum=((R.filter (fun x=>decide (x.v<r.v))).map f).sum+((E.map f).sum+((R.filter (fun x=>decide (r.v<x.v))).map f).sum):=by
  conv=>lhs;rw[he]
  simp only[xX,List.sum_append]
 have h2:(E.map f).sum=f (zc6 R r.v):=by
  rcases hE with⟨e,hn⟩|⟨x,e,hx,hm⟩
  ·rw[e,zn4 hn,h0];rfl
  ·rw[e,<-hx,zf7 hp hm];simp
 have h3:((wrL R r).map f).sum=((R.filter (fun x=>decide (x.v<r.v))).map f).sum+(f r+((R.filter (fun x=>decide (r.v<x.v))).map f).sum):=by
  unfold wrL;simp only[xX,List.sum_append];split
  ·rename_i h;rw[hr h];simp
  ·simp
 rw[h3,h1,h2];omega
theorem z35{R:List RT}{r:RT}(hp:R.Pairwise (fun a b=>a.v<b.v)):((wrL R r).flatMap RT.ids++(zc6 R r.v).ids).Perm (R.flatMap RT.ids++r.ids):=by
 obtain⟨E,he,hE⟩:=yb6 hp r.v;have h2:E.flatMap RT.ids=(zc6 R r.v).ids:=by
  rcases hE with⟨e,hn⟩|⟨x,e,hx,hm⟩
  ·rw[e,zn4 hn];rfl
  ·rw[e,<-hx,zf7 hp hm];simp
 have h3:(wrL R r).flatMap RT.ids=(R.filter (fun x=>decide (x.v<r.v))).flatMap RT.ids++(r.ids++(R.filter (fun x=>decide (r.v<x.v))).flatMap RT.ids):=by
  unfold wrL;simp only[xN];split
  ·rename_i h;rw[h];simp
  ·simp
 have h1:R.flatMap RT.ids=(R.filter (fun x=>decide (x.v<r.v))).flatMap RT.ids++((zc6 R r.v).ids++(R.filter (fun x=>decide (r.v<x.v))).flatMap RT.ids):=by
  conv=>lhs;rw[he]
  simp only[xN,h2]
 rw[h3,h1];generalize(R.filter (fun x=>decide (x.v<r.v))).flatMap RT.ids=A;generalize(R.filter (fun x=>decide (r.v<x.v))).flatMap RT.ids=B;generalize(zc6 R r.v).ids=C;rw[z7,z7,z7,z7];refine qO A ?_;have p1:(r.ids++(B++C)).Perm ((B++C)++r.ids):=List.perm_append_comm;refine p1.trans ?_;rw[<-z7];exact List.Perm.append_right _ List.perm_append_comm
theorem yk5{n:Int}{zs:List Int}(h:zs6 n zs=true){x:Int}(hx:0<=x/\x<n):tmI n zs x x=0:=by
 obtain⟨h1,h2,h3,h4⟩:=zr2 h;unfold tmI;obtain⟨m,rfl⟩:=xm (show 0<=n by omega);obtain⟨y,rfl⟩:=xm hx.1;have hy:y<m:=by omega
 have hm:0<m:=by omega
 simp only[yk]at h4⊢;have hd:(y*m+y) / m=y:=by
  rw[Nat.mul_comm,Nat.mul_add_div hm,Nat.div_eq_of_lt hy,Nat.add_zero]
 have hr:(y*m+y) % m=y:=by
  rw[Nat.mul_comm,Nat.mul_add_mod,Nat.mod_eq_of_lt hy]
 by_cases hl:y*m+y<zs.length
 ·exact(h4 _ hl).2.2 (by rw[hd,hr])
 ·rw[zM,yb (by omega)]
  rfl
theorem yb0{n:Int}{zs os vs:List Int}{ko kv:Nat}{fine:Int}(hc:zc8 n zs os vs ko kv fine=true)(v:Int):0<=zc2 vs kv v 1/\zc2 vs kv v 1<n:=by
 obtain⟨_,_,h3,h4,_⟩:=zb3 hc;exact(zs3 h3 h4 v).1
theorem zU1{n:Int}{zs ros:List Int}(hz:zs6 n zs=true){home:Int}(hh:0<=home/\home<n):zr1 n zs ros 0 home=0:=by
 unfold zr1;simp only[zr6,plc,yk5 hz hh];rfl
theorem zD6{n:Int}{zs os vs:List Int}{ko kv:Nat}{fine:Int}(hc:zc8 n zs os vs ko kv fine=true){r:RT}(hr:r.ids=[]):zm6 n zs os vs ko kv r=0:=by
 unfold zm6;rw[hr];exact zU1 (zb3 hc).1 (yb0 hc _)
theorem yJ4{n:Int}{zs os vs:List Int}{ko kv:Nat}{fine:Int}(hc:zc8 n zs os vs ko kv fine=true)(v:Int):rcV n zs os vs ko kv v []=0:=by
 unfold rcV;split
 ·exact zU1 (zb3 hc).1 (yb0 hc _)
 ·rfl
theorem y86{n:Int}{vs:List Int}{kv:Nat}(h:zx7 n vs kv=true){v:Int}(hv:fnd5T vs kv v=true):zc2 vs kv v 3<=zc2 vs kv v 4:=by
 unfold fnd5T at hv;unfold zc2;cases hf:ya9 vs kv v with
 |none=>rw[hf]at hv;cases hv
 |some i=>
  have hi:i<kv:=by
   unfold ya9 at hf;rw[yt]at hf;have:=hf.2.1;simpa using this
  have:=((zf6 h).2 i hi).1;unfold zM7 zy4 zi2 at this;simp only[zY]at this;obtain⟨_,⟨_,_⟩,_,h4⟩:=this;exact(zc7 h4).1
theorem y78{n:Int}{zs os vs:List Int}{ko kv:Nat}{fine:Int}(hc:zc8 n zs os vs ko kv fine=true){v:Int}(hv:fnd5T vs kv v=true):codeV true n zs os vs ko kv v []=0:=by
 obtain⟨h1,_,h3,h4,_⟩:=zb3 hc;have hb:=zs3 h3 h4 v;have hs:zp1 os ko []=true:=z78 (by simp) (fun j hj=>by simp at hj);have hf:zm9 true vs os kv ko v []=0:=by
  unfold zm9;rw[zW (by simp),zW (by rw[hv];simp),zW (by rw[hs];simp),zW (by simp only[List.length_nil,zn2];omega)]
 rw[zv3 hf];unfold zx0;rw[zV (fun j hj=>by simp at hj)];have ht:=yk5 h1 (yb0 hc v);have:=y86 h3 hv;rw[zW];unfold homeV;simp only[List.length_nil,z02,plc,ht];omega
theorem zh3{n:Int}{zs os vs:List Int}{ko kv:Nat}{R:List RT}:zi6 n zs os vs ko kv R R.length↔R.Pairwise (fun a b=>a.v<b.v)/\∀r∈R,r.ids≠[]/\codeV true n zs os vs ko kv r.v r.ids=0:=by
 constructor
 ·intro h
  refine⟨zg1.pw (fun j h1 h2=>(h j h2).1 h1),fun r hr=> ?_⟩;obtain⟨j,hj,e⟩:=zo5 hr;rw[<-e];exact(h j hj).2
 ·rintro⟨h1,h2⟩ j hj
  exact⟨fun h0=>zf0 h1 j h0 hj,h2 _ (zh2 hj)⟩
theorem ya4(n:Int)(zs os vs:List Int)(ko kv:Nat)(R:List RT)(z:Int):∀k,k<=R.length->zh7 n zs os vs ko kv R z k=z+((R.take k).map (zm6 n zs os vs ko kv)).sum
 |0,_=>by simp[zh7]
 |k+1,hk=>by
  have e:R.getD k rt0=R[k]:=by simp[List.getD,show k<R.length by omega]
  rw[zh7,ya4 n zs os vs ko kv R z k (by omega),yd (by omega),xX,List.sum_append,e];simp;omega
theorem z57(n:Int)(zs os vs:List Int)(ko kv:Nat)(R:List RT)(z:Int):zh7 n zs os vs ko kv R z R.length=z+(R.map (zm6 n zs os vs ko kv)).sum:=by
 rw[ya4 n zs os vs ko kv R z _ (zQ _),yc]
theorem z49:∀{l:List Int} {x:Int},l.Nodup->x∈l->l.Perm (x::cutP l x)
 |a::l,x,hn,hm=>by
  obtain⟨h1,h2⟩:=yT.1 hn;by_cases e:a=x
  ·subst e
   have:cutP (a::l) a=l:=by
    unfold cutP;rw[qF (by simp)];exact yu.2 (fun y hy=>by simp;exact fun e=>h1 (e▸hy))
   rw[this]
  ·have hml:x∈l:=by
    rcases yn.1 hm with h|h
    ·exact absurd h.symm e
    ·exact h
   have ih:=z49 h2 hml;have e2:cutP (a::l) x=a::cutP l x:=by
    unfold cutP;rw[yv (by simp[e])]
   rw[e2];exact(List.Perm.cons a ih).trans (List.Perm.swap x a _)
theorem zF5(l:List Int)(i:Nat)(x:Int):(insL l i x).Perm (x::l):=by
 unfold insL;have:=List.perm_middle (a:=x) (l₁:=l.take i) (l₂:=l.drop i);rw[qH]at this;exact this
theorem yu3{R:List RT}{k:Nat}{id:Int}(hS:zg1 R)(hk:k<R.length)(hne:∀r∈R,r.ids≠[])(hnd:(za8 R R.length).Nodup)(hid:id∈(R.getD k rt0).ids):lvR R id=wrL R ⟨(R.getD k rt0).v,(R.getD k rt0).a,cutP (R.getD k rt0).ids id,(R.getD k rt0).c⟩:=
 (y45 hk hne hnd hid).trans (yE3 hS hk _ _ _).symm
theorem yK7{n:Int}{zs os vs:List Int}{ko kv:Nat}{fine:Int}{R:List RT}{L:List Int}(h:zc3 n zs os vs ko kv fine R L=0){k:Nat}(hk:k<R.length){id:Int}(hid:id∈(R.getD k rt0).ids)(at_:Nat)(r2:RT)(hs:r2.ids=insL (zc6 (lvR R id) r2.v).ids at_ id):
 (zc3 n zs os vs ko kv fine (wrL (lvR R id) r2) L=0↔codeV true n zs os vs ko kv (R.getD k rt0).v (zc6 (wrL (lvR R id) r2) (R.getD k rt0).v).ids=0/\codeV true n zs os vs ko kv r2.v r2.ids=0)∧
 (zc3 n zs os vs ko kv fine (wrL (lvR R id) r2) L=0->∀z,zh7 n zs os vs ko kv (wrL (lvR R id) r2) z (wrL (lvR R id) r2).length - zh7 n zs os vs ko kv R z R.length=if(R.getD k rt0).v=r2.v then rcV n zs os vs ko kv r2.v r2.ids - rcV n zs os vs ko kv r2.v (zc6 R r2.v).ids else(rcV n zs os vs ko kv (R.getD k rt0).v (zc6 (wrL (lvR R id) r2) (R.getD k rt0).v).ids - rcV n zs os vs ko kv (R.getD k rt0).v (zc6 R (R.getD k rt0).v).ids)+(rcV n zs os vs ko kv r2.v r2.ids - rcV n zs os vs ko kv r2.v (zc6 R r2.v).ids)):=by
 obtain⟨hc,hr,ho,hl,hn⟩:=zb5 h;obtain⟨hp,hok⟩:=zh3.1 hr;have hS:=zf0 hp;have hne:∀r∈R,r.ids≠[]:=fun r hr=>(hok r hr).1;have hym:=zh2 hk;have hlv:=yu3 hS hk hne ho.1 hid;rw[hlv]at hs⊢;have hyn:=zt6 hk ho.1;have hyr:=zf7 hp hym;generalize R.getD k rt0=y at*;obtain⟨r1,hr1⟩:∃r1:RT,r1=⟨y.v,y.a,cutP y.ids id,y.c⟩:=⟨_,rfl⟩;have h1v:r1.v=y.v:=by rw[hr1]
 have h1i:r1.ids=cutP y.ids id:=by rw[hr1]
 rw[<-hr1]at hs⊢;have hp1:(wrL R r1).Pairwise (fun a b=>a.v<b.v):=zM2 hp;have hp2:(wrL (wrL R r1) r2).Pairwise (fun a b=>a.v<b.v):=zM2 hp1;have h2n:r2.ids≠[]:=by rw[hs];unfold insL;simp
 have h2m:r2∈wrL (wrL R r1) r2:=zx9.2 (.inr ⟨rfl,h2n⟩)
 -- what is served is the same
 have hpm:((wrL (wrL R r1) r2).flatMap RT.ids).Perm (R.flatMap RT.ids):=by
  have q1:=z35 (r:=r2) hp1;rw[hs]at q1;have q2:=q1.trans (qO _ ((zF5 (zc6 (wrL R r1) r2.v).ids at_ id)));have q3:((wrL (wrL R r1) r2).flatMap RT.ids).Perm ((wrL R r1).flatMap RT.ids++[id]):=by
   refine(qN (zc6 (wrL R r1) r2.v).ids).1 (q2.trans ?_);rw[z7];rfl
  have q4:=z35 (r:=r1) hp;rw[h1v,hyr,h1i]at q4;have q5:((wrL R r1).flatMap RT.ids++[id]).Perm (R.flatMap RT.ids):=by
   refine(qN (cutP y.ids id)).1 ?_;rw[z7];exact(qO _ (z49 hyn hid).symm).trans q4
  exact q3.trans q5
 have ho2:yh5 (za8 (wrL (wrL R r1) r2) (wrL (wrL R r1) r2).length) L:=by
  rw[zb6];have h9:=ho;rw[zb6]at h9;exact⟨hpm.nodup_iff.2 h9.1,fun x hx hm=>h9.2 x hx (hpm.mem_iff.1 hm)⟩
 have hn2:(za8 (wrL (wrL R r1) r2) (wrL (wrL R r1) r2).length).length+L.length=ko:=by
  rw[zb6,hpm.length_eq,<-zb6];exact hn
 have hr2:=zf7 hp2 h2m;have hvt:fnd5T vs kv y.v=true:=by
  have:=(zf5 (zg6 (hok y hym).2).1).2.1;exact this
 have hI:zc3 n zs os vs ko kv fine (wrL (wrL R r1) r2) L=0↔codeV true n zs os vs ko kv y.v (zc6 (wrL (wrL R r1) r2) y.v).ids=0/\codeV true n zs os vs ko kv r2.v r2.ids=0:=by
  constructor
  ·intro h9
   obtain⟨_,hr9,_⟩:=zb5 h9;obtain⟨_,hk9⟩:=zh3.1 hr9;refine⟨?_,(hk9 r2 h2m).2⟩;rcases zz2 (wrL (wrL R r1) r2) y.v with hm|hm
   ·have:=(hk9 _ hm).2
    rw[zN3]at this;exact this
   ·rw[hm]
    exact y78 hc hvt
  ·rintro⟨c1,c2⟩
   refine zN6 hc (zh3.2 ⟨hp2,fun r hr9=> ?_⟩) ho2 hl hn2;rcases zx9.1 hr9 with⟨hm,hv⟩|⟨e,_⟩
   ·rcases zx9.1 hm with⟨hm1,_⟩|⟨e,hn1⟩
    ·exact hok r hm1
    ·have hrr:=zf7 hp2 hr9
     rw[e,h1v]at hrr;rw[hrr]at c1;rw[e,h1v];exact⟨hn1,c1⟩
   ·rw[e]
    exact⟨h2n,c2⟩
 refine⟨hI,fun h9 z=> ?_⟩;obtain⟨c1,c2⟩:=hI.1 h9;have z0:∀v,zm6 n zs os vs ko kv ⟨v,none,[],0⟩=0:=fun v=>zD6 hc rfl;have s2:=yb1 (r:=r2) (zm6 n zs os vs ko kv) hp1 (fun e=>zD6 hc e) (z0 _);have s1:=yb1 (r:=r1) (zm6 n zs os vs ko kv) hp (fun e=>zD6 hc e) (z0 _);rw[h1v,hyr]at s1;rw[z57,z57,s2,s1];have rr:∀r:RT,codeV true n zs os vs ko kv r.v r.ids=0->rcV n zs os vs ko kv r.v r.ids=zm6 n zs os vs ko kv r:=fun r hr9=>z21 hr9;have e2:=rr r2 c2;have ey:=rr y (hok y hym).2;have eo:∀v,rcV n zs os vs ko kv v (zc6 R v).ids=zm6 n zs os vs ko kv (zc6 R v):=fun v=>by
  rcases zz2 R v with hm|hm
  ·have:=rr _ (hok _ hm).2
   rw[zN3]at this;exact this
  ·rw[hm,z0]
   exact yJ4 hc v
 rw[e2,eo];have ids_same:∀{a b:RT},a.v=b.v->a.ids=b.ids->zm6 n zs os vs ko kv a=zm6 n zs os vs ko kv b:=fun{a b} h1 h2=>by unfold zm6;rw[h1,h2]
 by_cases hv:y.v=r2.v
 ·rw[zV hv]
  have e1:zm6 n zs os vs ko kv (zc6 (wrL R r1) r2.v)=zm6 n zs os vs ko kv r1:=ids_same (by rw[zN3,h1v,hv]) ((z12 hp r2.v).1 (by rw[h1v,hv]));rw[e1,<-hv,hyr];omega
 ·rw[zW hv]
  have e1:zc6 (wrL R r1) r2.v=zc6 R r2.v:=(z12 hp r2.v).2 (by rw[h1v];exact fun e=>hv e.symm);have e3:=(z12 hp1 y.v).2 hv;have e4:=(z12 hp y.v).1 h1v.symm;have e5:rcV n zs os vs ko kv y.v (zc6 (wrL (wrL R r1) r2) y.v).ids=zm6 n zs os vs ko kv r1:=by
   rw[z21 c1,e3,e4];unfold zm6;rw[h1v]
  rw[e5,e1,hyr,ey];omega
