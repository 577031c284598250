import Derived.Test.YtkchnomkiboihaaGreatPack7
import Derived.Test.YtkchnomkiboihaaGreatPack16
import Derived.Test.YtkchnomkiboihaaGreatPack17
set_option linter.unusedSimpArgs false
set_option maxHeartbeats 2000000
namespace Go.Proofs.YtkchnomkiboihaaGreat
theorem qD:type_of% @List.mem_filter:=@List.mem_filter
theorem qE:type_of% @decide_eq_true_eq:=@decide_eq_true_eq
theorem qF:type_of% @List.filter_cons_of_neg:=@List.filter_cons_of_neg
theorem qG:type_of% @List.mem_flatMap:=@List.mem_flatMap
theorem qH:type_of% @List.take_append_drop:=@List.take_append_drop
theorem qI:type_of% @List.filter_eq_nil_iff:=@List.filter_eq_nil_iff
theorem qJ:type_of% @List.mem_append_left:=@List.mem_append_left
open Value renaming slice→za,int→zc
open IntKind renaming i64→zb
open Obj renaming cells→zd
open Go.RowKit
open Q
structure GB(w W:World)(pc pp ps:Nat)(cs:Array Value)(p0 p1:Value)(id veh:Int)(pl:Nat):Prop where
 b:Below w.heap.size w W
 c:W.heap[pc]? =some (.cells cs 30 (0,0))
 p:W.heap[pp]? =some (zd #[p0,p1] 33 (0,0))
 s:W.heap[ps]? =some (zd #[zc zb id,zc zb veh,zc zb (pl:Int)] 129 (0,0))
 l:pc<w.heap.size/\pp<w.heap.size/\ps<w.heap.size
section
variable {w W W':World} {pc pp ps:Nat} {cs:Array Value} {p0 p1:Value} {id veh:Int} {pl:Nat}
theorem GB.below(h:GB w W pc pp ps cs p0 p1 id veh pl)(hb:Below W.heap.size W W'):GB w W' pc pp ps cs p0 p1 id veh pl:=
 ⟨h.b.trans (hb.mono h.b.size),za0 hb (za2 h.c) h.c,za0 hb (za2 h.p) h.p,za0 hb (za2 h.s) h.s,h.l⟩
theorem GB.set(h:GB w W pc pp ps cs p0 p1 id veh pl){k i:Nat}{v:Value}(hk:w.heap.size<=k):GB w (W.setCell ⟨k,i,none⟩ v) pc pp ps cs p0 p1 id veh pl:=by
 obtain⟨h1,h2,h3⟩:=h.l;exact⟨h.b.setCell hk _,za6 h.c (by omega),za6 h.p (by omega),za6 h.s (by omega),h.l⟩
theorem GB.new(h1:w.heap[pc]? =some (.cells cs 30 (0,0)))(h2:w.heap[pp]? =some (zd #[p0,p1] 33 (0,0)))(h3:w.heap[ps]? =some (zd #[zc zb id,zc zb veh,zc zb (pl:Int)] 129 (0,0))):GB w w pc pp ps cs p0 p1 id veh pl:=
 ⟨yV _ _,h1,h2,h3,za2 h1,za2 h2,za2 h3⟩
end
theorem GB.cells{w W:World}{pc pp ps:Nat}{c0 c1 c2 c3 c4 p0 p1:Value}{id veh:Int}{pl:Nat}(h:GB w W pc pp ps #[c0,c1,c2,c3,c4] p0 p1 id veh pl):
 W.cell? ⟨pc,0,none⟩=some c0/\W.cell? ⟨pc,1,none⟩=some c1/\W.cell? ⟨pc,2,none⟩=some c2/\W.cell? ⟨pc,3,none⟩=some c3/\W.cell? ⟨pc,4,none⟩=some c4/\W.cell? ⟨pp,0,none⟩=some p0/\W.cell? ⟨pp,1,none⟩=some p1/\W.cell? ⟨ps,0,none⟩=some (zc zb id)/\W.cell? ⟨ps,1,none⟩=some (zc zb veh)/\W.cell? ⟨ps,2,none⟩=some (zc zb (pl:Int)):=by
 obtain⟨k0,k1,k2,k3,k4⟩:=za7 h.c;obtain⟨k5,k6⟩:=za1 h.p;obtain⟨k7,k8,k9⟩:=zw8 h.s;exact⟨k0,k1,k2,k3,k4,k5,k6,k7,k8,k9⟩
def gD(n:Int)(zs os vs:List Int)(ko kv:Nat)(R:List RT)(p:zg2):Int:=plD true n zs os vs ko kv p.2.1 (zc6 R p.2.1).ids p.1 p.2.2
def gB(n:Int)(zs os vs:List Int)(ko kv:Nat)(R:List RT)(p:zg2):Bool:=plB true n zs os vs ko kv p.2.1 (zc6 R p.2.1).ids p.1 p.2.2
def gOk(n fine:Int)(zs os vs:List Int)(ko kv:Nat)(R:List RT)(p:zg2):Bool:=gB n zs os vs ko kv R p&&decide (gD n zs os vs ko kv R p<=fine)
theorem yi6(n fine:Int)(a ao av ra:Option Addr)(cap ko co kv cv:Nat)(zs os vs:List Int)(R:List RT)(w:World)(hA:za3 w a zs)(hO:za3 w ao os)(hV:za3 w av vs)(hlo:os.length=ko*6)(hlv:vs.length=kv*5)(hko:ko<=9223372036854775807)(hkv:kv<=9223372036854775807)(hcB:zc8 n zs os vs ko kv fine=true)(hR:za9 w ra R)(hi:zx3 R)(id veh:Int)(pl:Nat)
 (ch:Bool) (hch:gB n zs os vs ko kv R (id,veh,pl)=ch) (D:Int) (hD:gD n zs os vs ko kv R (id,veh,pl)=D) (xs:List Int) (hxs:chL ch (insL (zc6 R veh).ids pl id)=xs):
 ∀(W W':World) (p q:Nat),Below w.heap.size w W->W.cell? ⟨p,0,none⟩=some (zc zb (pl:Int))->W.cell? ⟨q,0,none⟩=some (zc zb id)->Below W.heap.size W W'->Calls Tryz.prog 159 #[.agg #[zc zb n,za a zs.length cap,za ao ko co,za av kv cv,zc zb fine],.agg #[zc zb veh,.slice (zc6 R veh).a (zc6 R veh).ids.length (zc6 R veh).c],.func (.func 180) #[] #[.pointer (some ⟨p,0,none⟩),.pointer (some ⟨q,0,none⟩)]] W' (yo4 W' ch veh D xs):=by
 intro W W' p q hW hp hq hW';have hB:=hW.trans (hW'.mono hW.size);have hp':=(hW'.cell (p:=⟨p,0,none⟩) (zT hp)).trans hp;have hq':=(hW'.cell (p:=⟨q,0,none⟩) (zT hq)).trans hq;obtain⟨h1,h2,h3,h4⟩:=z87 hR hi veh;exact yf3 n fine veh a ao av _ cap ko co kv cv _ zs os vs _ W' (hA.below hB) (hO.below hB) (hV.below hB) (h1.below hB) hlo hlv hko hkv (by omega) h3 hcB p q _ _ (fun X hX h12=>zU6 p q (pl:Int) id _ _ _ X ((hX.cell (p:=⟨p,0,none⟩) (zT hp')).trans hp') ((hX.cell (p:=⟨q,0,none⟩) (zT hq')).trans hq') (h1.below (hB.trans (hX.mono hB.size))) h12 h4) ch hch D (by rw[<-hD,<-hch];rfl) xs hxs
def wrL(R:List RT)(r:RT):List RT:=R.filter (fun x=>decide (x.v<r.v))++((if r.ids=[]then []else [r])++R.filter (fun x=>decide (r.v<x.v)))
theorem zh2{R:List RT}{j:Nat}(h:j<R.length):R.getD j rt0∈R:=by rw[zM,zO h];simp
theorem zo5{R:List RT}{x:RT}(h:x∈R):∃j,j<R.length/\R.getD j rt0=x:=by
 obtain⟨j,hj,e⟩:=xK h;exact⟨j,hj,by rw[zM,zO hj,e];rfl⟩
theorem yi9{R:List RT}{x:RT}{k:Nat}(h:x∈R.take k):∃j,j<k/\j<R.length/\R.getD j rt0=x:=by
 obtain⟨j,hj,e⟩:=xK h;rw[zZ]at hj;rw[List.getElem_take]at e;exact⟨j,by omega,by omega,by rw[zM,zO (by omega),e];rfl⟩
theorem yj8{R:List RT}{x:RT}{k:Nat}(h:x∈R.drop k):∃j,k<=j/\j<R.length/\R.getD j rt0=x:=by
 obtain⟨j,hj,e⟩:=xK h;rw[x7]at hj;rw[List.getElem_drop]at e;exact⟨k+j,by omega,by omega,by rw[zM,zO (by omega),e];rfl⟩
theorem yt9{R:List RT}{veh:Int}{k:Nat}(h:y26 R veh k):R.filter (fun x=>decide (x.v<veh))=R.take k:=by
 conv=>lhs;rw[<-qH k R]
 rw[yE,yu.2 (fun x hx=> ?_),qI.2 (fun x hx=> ?_),xY];rotate_left 1
 ·obtain⟨j,h1,_,rfl⟩:=yi9 hx
  exact zS (h.lo j h1)
 ·obtain⟨j,h1,h2,rfl⟩:=yj8 hx
  have:=h.hi j h1 h2;intro h9;have h10:=zX h9;omega
def yr7(R:List RT)(veh:Int)(k:Nat):Nat:=if yn9 R veh k=true then 1 else 0
theorem yv9{R:List RT}{veh:Int}{k:Nat}(hS:zg1 R)(h:y26 R veh k):R.filter (fun x=>decide (veh<x.v))=R.drop (k+yr7 R veh k):=by
 conv=>lhs;rw[<-qH (k+yr7 R veh k) R]
 rw[yE,qI.2 (fun x hx=> ?_),yu.2 (fun x hx=> ?_),yo];rotate_left 1
 ·obtain⟨j,h1,h2,rfl⟩:=yi9 hx
  unfold yr7 at h1;by_cases hj:j<k
  ·have:=h.lo j hj
   intro h9;have h10:=zX h9;omega
  ·by_cases hf:yn9 R veh k=true
   ·rw[zV hf]at h1
    have:=(zX hf).2;rw[show j=k by omega,this];simp
   ·rw[zW hf]at h1;omega
 ·obtain⟨j,h1,h2,rfl⟩:=yj8 hx
  refine zS ?_;unfold yr7 at h1;by_cases hf:yn9 R veh k=true
  ·rw[zV hf]at h1
   have h3:=(zX hf).2;have h4:=hS.lt (j - k - 1) k (by omega);rw[show k+(j - k - 1)+1=j by omega]at h4;omega
  ·rw[zW hf]at h1
   have h3:=h.hi j (by omega) h2;by_cases e:j=k
   ·have:¬((R.getD j rt0).v=veh):=fun e2=>hf (zS ⟨by omega,by rw[<-e];exact e2⟩)
    omega
   ·have h4:=hS.lt (j - k - 1) k (by omega)
    rw[show k+(j - k - 1)+1=j by omega]at h4;have h5:=h.hi k (zQ _) (by omega);omega
theorem y98{R:List RT}{r:RT}{k:Nat}(hS:zg1 R)(h:y26 R r.v k):wrL R r=R.take k++((if r.ids=[]then []else [r])++R.drop (k+yr7 R r.v k)):=by
 unfold wrL;rw[yt9 h,yv9 hS h]
theorem zF3(R:List RT)(k:Nat):(zg5 R).take (k*2)=zg5 (R.take k):=by
 by_cases h:k<=R.length
 ·conv=>lhs;rw[<-qH k R,zk1]
  rw[List.take_left' (by rw[ze5,zZ];omega)]
 ·rw[xu (by rw[ze5];omega),xu (by omega)]
theorem zF9(R:List RT)(k:Nat):(zg5 R).drop (k*2)=zg5 (R.drop k):=by
 by_cases h:k<=R.length
 ·conv=>lhs;rw[<-qH k R,zk1]
  rw[List.drop_left' (by rw[ze5,zZ];omega)]
 ·rw[List.drop_of_length_le (by rw[ze5];omega),List.drop_of_length_le (by omega)]
  rfl
theorem zy8{R:List RT}{r x:RT}(h:x∈wrL R r):x∈R∨x=r:=by
 unfold wrL at h;rcases yi.1 h with h|h
 ·exact .inl (qD.1 h).1
 ·rcases yi.1 h with h|h
  ·by_cases e:r.ids=[]
   ·rw[zV e]at h;cases h
   ·rw[zW e]at h;exact .inr (List.mem_singleton.1 h)
  ·exact .inl (qD.1 h).1
theorem zK2{R S:List RT}(p:Int->Bool)(h:R.map RT.key=S.map RT.key):(R.filter (fun x=>p x.v)).map RT.key=(S.filter (fun x=>p x.v)).map RT.key:=by
 have e:∀T:List RT,(T.filter (fun x=>p x.v)).map RT.key=(T.map RT.key).filter (fun k=>p k.1):=fun T=>by
  rw[List.filter_map];rfl
 rw[e,e,h]
theorem z72{R S:List RT}{r s:RT}(h:R.map RT.key=S.map RT.key)(hr:r.key=s.key):(wrL R r).map RT.key=(wrL S s).map RT.key:=by
 have hv:r.v=s.v:=congrArg Prod.fst hr;have hi:r.ids=s.ids:=congrArg Prod.snd hr;unfold wrL;rw[xX,xX,xX,xX,hv,hi,zK2 (fun v=>decide (v<s.v)) h,zK2 (fun v=>decide (s.v<v)) h]
 congr 2
 split
 ·rfl
 ·show[r.key]=[s.key]
  rw[hr]
theorem zo2{R S:List RT}(h:R.map RT.key=S.map RT.key)(veh:Int):(zc6 R veh).ids=(zc6 S veh).ids:=by
 have e:∀T:List RT,(zc6 T veh).ids=(((T.map RT.key).find? (fun k=>k.1==veh)).map (·.2)).getD []:=fun T=>by
  unfold zc6;rw[List.find?_map];have:((fun k:Int×List Int=>k.1==veh) ∘ RT.key)=fun r:RT=>r.v==veh:=rfl;rw[this];cases T.find? (fun r:RT=>r.v==veh)<;>rfl
 rw[e,e,h]
def zy3(n fine:Int)(zs os vs:List Int)(ko kv:Nat)(R:List RT)(L:List Int):QS:=qst (gOk n fine zs os vs ko kv R) (gD n zs os vs ko kv R) (sp3 R vs kv L L.length)
def oneT(R:List RT)(s:zg2):RT:=⟨s.2.1,none,insL (zc6 R s.2.1).ids s.2.2 s.1,0⟩
def zB8(n fine:Int)(zs os vs:List Int)(ko kv:Nat)(R:List RT)(L:List Int):List RT:=if(zy3 n fine zs os vs ko kv R L).f then wrL R (oneT R (zy3 n fine zs os vs ko kv R L).s)else R
def zD2(n fine:Int)(zs os vs:List Int)(ko kv:Nat)(R:List RT)(L:List Int):List Int:=if(zy3 n fine zs os vs ko kv R L).f then zn1 L (zy3 n fine zs os vs ko kv R L).s.1 else L
theorem yx5{R S:List RT}(h:R.map RT.key=S.map RT.key)(V:List Int)(id:Int):∀k,sp2 R V id k=sp2 S V id k
 |0=>rfl
 |k+1=>by
  show sp2 R V id k++_=sp2 S V id k++_;rw[yx5 h V id k,zo2 h]
theorem yt7{R S:List RT}(h:R.map RT.key=S.map RT.key)(V:List Int)(kv:Nat)(ids:List Int):∀i,sp3 R V kv ids i=sp3 S V kv ids i
 |0=>rfl
 |i+1=>by
  show sp3 R V kv ids i++_=sp3 S V kv ids i++_;rw[yt7 h V kv ids i,yx5 h]
theorem y97{R S:List RT}(h:R.map RT.key=S.map RT.key)(n:Int)(zs os vs:List Int)(ko kv:Nat):gD n zs os vs ko kv R=gD n zs os vs ko kv S:=by
 funext p;unfold gD;rw[zo2 h]
theorem yA9{R S:List RT}(h:R.map RT.key=S.map RT.key)(n fine:Int)(zs os vs:List Int)(ko kv:Nat):gOk n fine zs os vs ko kv R=gOk n fine zs os vs ko kv S:=by
 funext p;unfold gOk gB;rw[y97 h,zo2 h]
theorem zP4{R S:List RT}(h:R.map RT.key=S.map RT.key)(n fine:Int)(zs os vs:List Int)(ko kv:Nat)(L:List Int):zy3 n fine zs os vs ko kv R L=zy3 n fine zs os vs ko kv S L:=by
 unfold zy3;rw[yA9 h,y97 h,yt7 h]
theorem y70{R S:List RT}(h:R.map RT.key=S.map RT.key)(n fine:Int)(zs os vs:List Int)(ko kv:Nat)(L:List Int):(zB8 n fine zs os vs ko kv R L).map RT.key=(zB8 n fine zs os vs ko kv S L).map RT.key:=by
 unfold zB8;rw[zP4 h];split
 ·exact z72 h (by unfold oneT RT.key;simp only;rw[zo2 h])
 ·exact h
theorem yi8{R:List RT}(h:∀j,j<R.length->(R.getD j rt0).ids≠[]):∀k,k<=R.length->k<=(za8 R k).length
 |0,_=>yZ _
 |k+1,hk=>by
  have ih:=yi8 h k (by omega);have h1:=xL.2 (h k (by omega));rw[zf4 (by omega),xU];omega
theorem yB0{n:Int}{zs os vs:List Int}{ko kv:Nat}{fine:Int}{R:List RT}{L:List Int}(h:zc3 n zs os vs ko kv fine R L=0)(hrc:∀r∈R,r.ids.length<=r.c):zc8 n zs os vs ko kv fine=true/\zg1 R/\zx3 R/\R.length<=12/\L.length<=12/\ko<=12/\kv<=5:=by
 obtain⟨h1,h2,_,_,h5⟩:=zb5 h;have hc:=h1;unfold zc8 at hc;simp only[zY]at hc;have hko:=(zd9 hc.1.1.2).1;have hkv:=(zf6 hc.1.2).1;have h6:=yi8 (R:=R) (fun j hj=>(h2 j hj).2.1) R.length (zQ _);refine⟨h1,fun j h3 h4=>(h2 j h4).1 h3,fun r hr=> ?_,by omega,by omega,hko,hkv⟩;obtain⟨j,hj,e⟩:=xK hr;have e2:R.getD j rt0=r:=by rw[zM,zO hj,e];rfl
 obtain⟨_,h7,h8⟩:=h2 j hj;rw[e2]at h7 h8;exact⟨h7,zk7 h8,hrc r hr⟩
theorem y96{n fine:Int}{zs os vs:List Int}{ko kv:Nat}{R:List RT}{L:List Int}(hi:zx3 R)(hn:R.length<=100)(hl:L.length<=100):(∀r∈zB8 n fine zs os vs ko kv R L,r.ids≠[]/\r.ids.length<=12)/\(zB8 n fine zs os vs ko kv R L).length<=500/\(zD2 n fine zs os vs ko kv R L).length<=500:=by
 unfold zB8 zD2;have hm:=zz8 (ok:=gOk n fine zs os vs ko kv R) (dl:=gD n zs os vs ko kv R) (sp3 R vs kv L L.length);change(zy3 n fine zs os vs ko kv R L).f=true->_ at hm;by_cases h:(zy3 n fine zs os vs ko kv R L).f=true
 ·rw[zV h,zV h]
  have h2:=(hm h).2.1;change gOk n fine zs os vs ko kv R (zy3 n fine zs os vs ko kv R L).s=true at h2;generalize(zy3 n fine zs os vs ko kv R L).s=s at*;unfold gOk gB at h2;have h3:plB true n zs os vs ko kv s.2.1 (zc6 R s.2.1).ids s.1 s.2.2=true:=(zY _ _▸h2).1;have h4:codeV true n zs os vs ko kv s.2.1 (insL (zc6 R s.2.1).ids s.2.2 s.1)=0:=by
   unfold plB chB at h3;simp only[zY,qE]at h3;exact h3.2.2
  refine⟨fun r hr=> ?_,?_,y7 (zR1 _ _) (by omega)⟩
  ·rcases zy8 hr with h5|h5
   ·exact⟨(hi r h5).1,(hi r h5).2.1⟩
   ·rw[h5]
    exact⟨by unfold oneT insL;simp,zk7 h4⟩
  ·unfold wrL
   rw[xU,xU];have h6:=yj (fun x:RT=>decide (x.v<(oneT R s).v)) R;have h7:=yj (fun x:RT=>decide ((oneT R s).v<x.v)) R;have h8:(if(oneT R s).ids=[]then([]:List RT)else [oneT R s]).length<=1:=by split<;>simp
   omega
 ·rw[zW h,zW h]
  exact⟨fun r hr=>⟨(hi r hr).1,(hi r hr).2.1⟩,by omega,by omega⟩
theorem zF6(r:RT):∀(R o:List RT),(∀x∈R,x.v≠r.v)->R.foldl (zP6 r) (o,true)=(o++R,true)
 |[],o,_=>by simp
 |x::R,o,h=>by
  rw[yD,yA3 (h x (ym ..)),zF6 r R _ (fun y hy=>h y (yh _ hy))];simp
theorem yJ5{R:List RT}{r x:RT}(hx:x.v<r.v):wrL (x::R) r=x::wrL R r:=by
 unfold wrL;rw[yv (p:=fun x:RT=>decide (x.v<r.v)) (zS hx),qF (p:=fun x:RT=>decide (r.v<x.v)) (fun h9=>by have:=zX h9;omega)];rfl
theorem yJ7{R:List RT}{r:RT}(hr:r.ids≠[])(h:∀y∈R,r.v<y.v):wrL R r=r::R:=by
 unfold wrL;have h1:R.filter (fun x=>decide (x.v<r.v))=[]:=qI.2 (fun y hy h9=>by have:=zX h9;have:=h y hy;omega);have h2:=yu.2 (fun y hy=>zS (h y hy));rw[h1,h2];simp[hr]
theorem yC0{R:List RT}{r x:RT}(hr:r.ids≠[])(hx:x.v=r.v)(h:∀y∈R,r.v<y.v):wrL (x::R) r=r::R:=by
 unfold wrL;have h1:(x::R).filter (fun x=>decide (x.v<r.v))=[]:=qI.2 (fun y hy h9=>by
  have:=zX h9;rcases yn.1 hy with e|hy
  ·rw[e]at this;omega
  ·have:=h y hy;omega)
 have h2:(x::R).filter (fun x=>decide (r.v<x.v))=R:=by
  rw[qF (p:=fun x:RT=>decide (r.v<x.v)) (fun h9=>by have:=zX h9;omega)];exact yu.2 (fun y hy=>zS (h y hy))
 rw[h1,h2];simp[hr]
theorem yw3{r:RT}(hr:r.ids≠[]):∀(R o:List RT),R.Pairwise (fun a b=>a.v<b.v)->(if(R.foldl (zP6 r) (o,false)).2 then(R.foldl (zP6 r) (o,false)).1 else(R.foldl (zP6 r) (o,false)).1++[r])=o++wrL R r
 |[],o,_=>by simp[wrL,hr]
 |x::R,o,h=>by
  obtain⟨h1,h2⟩:=yp.1 h;rw[yD];rcases Int.lt_trichotomy x.v r.v with hx|hx|hx
  ·rw[yA1 hx,yw3 hr R (o++[x]) h2,yJ5 hx]
   simp
  ·rw[y91 hx,zF6 r R _ (fun y hy=>by have:=h1 y hy;omega),yC0 hr hx (fun y hy=>by have:=h1 y hy;omega)]
   simp
  ·rw[y94 hx,zF6 r R _ (fun y hy=>by have:=h1 y hy;omega),yJ7 hr (fun y hy=>by
    rcases yn.1 hy with e|hy
    ·rw[e];exact hx
    ·have:=h1 y hy;omega)]
   simp
theorem zg1.pw{R:List RT}(h:zg1 R):R.Pairwise (fun a b=>a.v<b.v):=by
 rw[yr];intro i j hi hj hij;have:=h.lt (j - i - 1) i (by omega);rw[show i+(j - i - 1)+1=j by omega]at this;simpa[zM,zO hi,zO hj]using this
theorem z39{R:List RT}{r:RT}(hS:zg1 R)(hr:r.ids≠[]):zK9 R r=wrL R r:=by
 have:=yw3 hr R [] hS.pw;rw[yo]at this;rw[<-this];unfold zK9 setTo;rw[yc]
def grp(fine:Int)(id veh:Int)(s:QS)(b:PS):QS:=if b.f=true/\b.v<=fine/\(s.f=false∨b.v<s.v)then⟨true,(id,veh,b.i),b.v⟩else s
theorem yl1(fine id veh:Int)(B:zg2->Bool)(D:zg2->Int)(s:QS):∀m,(sp1 id veh m).foldl (zl9 (fun p=>B p&&decide (D p<=fine)) D) s=grp fine id veh s (pst (fun a=>B (id,veh,a)) (fun a=>D (id,veh,a)) m)
 |0=>by
  have:¬((ps0).f=true/\(ps0).v<=fine/\(s.f=false∨(ps0).v<s.v)):=fun h=>by cases h.1
  show s=grp fine id veh s ps0;unfold grp;rw[zW this]
 |m+1=>by
  have ih:=yl1 fine id veh B D s m;rw[zR9,yA,ih,zP7];generalize pst (fun a=>B (id,veh,a)) (fun a=>D (id,veh,a)) m=b;simp only[yD,List.foldl_nil];unfold zO6;by_cases hB:B (id,veh,m)=true
  ·by_cases hd:D (id,veh,m)<=fine
   ·have hok:(B (id,veh,m)&&decide (D (id,veh,m)<=fine))=true:=by simp[hB,hd]
    by_cases hbf:b.f=false
    ·have h1:grp fine id veh s b=s:=by unfold grp;rw[zW (fun h=>by rw[hbf]at h;cases h.1)]
     rw[h1,zV ⟨hB,.inl hbf⟩];unfold zl9 grp;simp[hB,hd]
    ·have hbt:b.f=true:=by simpa using hbf
     by_cases hlt:D (id,veh,m)<b.v
     ·rw[zV ⟨hB,.inr hlt⟩]
      by_cases ht:b.f=true/\b.v<=fine/\(s.f=false∨b.v<s.v)
      ·have h1:grp fine id veh s b=⟨true,(id,veh,b.i),b.v⟩:=zV ht
       rw[h1,z58 hok hlt];unfold grp;rw[zV ⟨rfl,hd,by rcases ht.2.2 with h|h;exact .inl h;exact .inr (Int.lt_trans hlt h)⟩]
      ·have h1:grp fine id veh s b=s:=zW ht
       rw[h1];unfold zl9 grp;simp[hB,hd]
     ·rw[zW (fun h=>by rcases h.2 with h|h;exact hbf h;exact hlt h)]
      by_cases ht:b.f=true/\b.v<=fine/\(s.f=false∨b.v<s.v)
      ·have h1:grp fine id veh s b=⟨true,(id,veh,b.i),b.v⟩:=zV ht
       rw[h1];exact zy9 rfl hlt
      ·have h1:grp fine id veh s b=s:=zW ht
       have hbv:b.v<=fine:=by omega
       have h2:¬(s.f=false∨b.v<s.v):=fun h=>ht ⟨hbt,hbv,h⟩;rw[h1];refine zy9 (by simpa using fun h=>h2 (.inl h)) (fun h=>h2 (.inr (by omega)))
   ·have hok:(B (id,veh,m)&&decide (D (id,veh,m)<=fine))=false:=by simp[hd]
    rw[zr0 hok];split
    ·rename_i hc
     have h2:grp fine id veh s ⟨true,m,D (id,veh,m)⟩=s:=zW (fun h=>hd h.2.1);rw[h2];refine zW (fun h=> ?_);rcases hc.2 with h3|h3
     ·rw[h3]at h;cases h.1
     ·exact hd (Int.le_trans (Int.le_of_lt h3) h.2.1)
    ·rfl
  ·have hok:(B (id,veh,m)&&decide (D (id,veh,m)<=fine))=false:=by simp[hB]
   rw[zr0 hok,zW (fun h=>hB h.1)]
theorem yE1(n fine:Int)(zs os vs:List Int)(ko kv:Nat)(R:List RT)(l:List zg2)(id veh:Int):
 qst (gOk n fine zs os vs ko kv R) (gD n zs os vs ko kv R) (l++sp1 id veh ((zc6 R veh).ids.length+1))=grp fine id veh (qst (gOk n fine zs os vs ko kv R) (gD n zs os vs ko kv R) l) (bpV true n zs os vs ko kv veh (zc6 R veh).ids id):=by
 unfold qst;rw[yA];exact yl1 fine id veh (gB n zs os vs ko kv R) (gD n zs os vs ko kv R) _ _
end Go.Proofs.YtkchnomkiboihaaGreat
namespace Go.Proofs.YtkchnomkiboihaaGreat
open Proofs.Tryz renaming prog→ze
open Go.RowKit Go.Shelf
open Q
def Tryz.lCloneR_ren:Go.Shelf.Ren:=⟨fun|41=>171|n=>n,fun|4=>4|22=>31|23=>80|n=>n,fun|n=>n⟩
theorem Tryz.lCloneR:SlLaysE0.n41 ze Tryz.lCloneR_ren:={
 mixed:=by kernel_rfl
 f41:=⟨Tryz.f171.name,by decide,Tryz.func171.trans (congrArg some (by kernel_rfl))⟩
 t4:=Tryz.underlying4
 a4:=Tryz.isAgg4
 z4:=Tryz.sizeOf4
 v4:=Tryz.zeroValue4
 t22:=xI
 a22:=Tryz.isAgg31
 z22:=Tryz.sizeOf31
 v22:=Tryz.zeroValue31}
theorem zC1(R:List RT):∀v∈zg5 R,v.oneCell'=true:=fun v hv=>by
 unfold zg5 at hv;obtain⟨r,_,h⟩:=qG.1 hv;simp[zq8]at h;rcases h with rfl|rfl<;>rfl
theorem za9.cells{w:World}{b off:Nat}{R:List RT}(h:za9 w (some ⟨b,off,none⟩) R):∀j u,(zg5 R)[j]? =some u->w.cell? ⟨b,off+j,none⟩=some u:=fun j u hj=>by
 have hlt:j<(zg5 R).length:=by
  rcases qc j (zg5 R).length with h|h
  ·exact h
  ·rw[yb h]at hj;cases hj
 rw[ze5]at hlt;obtain⟨b',off',e,c1,c2,_⟩:=h (j / 2) (by omega);simp only[xV,xZ,qb]at e;obtain⟨rfl,rfl⟩:=e;obtain⟨r1,r2⟩:=zp0 R (j / 2) (by omega);rcases Nat.mod_two_eq_zero_or_one j with e|e
 ·rw[show j / 2*2=j by omega]at r1 c1
  rw[hj]at r1;rw[c1,<-r1]
 ·rw[show j / 2*2+1=j by omega]at r2
  rw[show off+j / 2*2+1=off+j by omega]at c2;rw[hj]at r2;rw[c2,<-r2]
theorem yB5(w:World):(Go.sizeOf 80).run ze w=.ok 2 w:=by
 cases hq:Tryz.prog.info? 80 with
 |none=>have:=zp2;rw[hq]at this;simp at this
 |some i0=>
  have h:=zp2;rw[hq]at h;simp only[yC,xV,Prod.mk.injEq]at h;simp[Go.sizeOf,typeInfo,hq,h.2.1]
theorem yH9(ra:Option Addr)(rc n:Nat)(R:List RT)(w:World)(hR:za9 w ra R)(hn:R.length=n)(h:n<=1000)(hra:(ra=none/\n=0)∨∃b off,ra=some ⟨b,off,none⟩):
 Calls ze 171 #[.slice ra n rc] w fun e w'=>∃sl,e=.returned sl/\Below w.heap.size w w'/\w'.ownsRow w.heap.size 80 2 sl n (zg5 R):=by
 rcases hra with⟨rfl,rfl⟩|⟨b,off,rfl⟩
 ·refine(AnyE.slices_Clone_nil Tryz.lCloneR 0 rc w).mono ?_
  rintro e w' ⟨rfl,rfl⟩;have e:R=[]:=qz.1 hn;subst e;exact⟨_,rfl,yV _ _,⟨rfl,.inl ⟨rfl,rfl⟩⟩⟩
 ·cases hq:Tryz.prog.info? 80 with
  |none=>have:=zp2;rw[hq]at this;simp at this
  |some i0=>
   have hi:=zp2;rw[hq]at hi;simp only[yC,xV,Prod.mk.injEq]at hi;refine(AnyE.slices_Clone Tryz.lCloneR i0 _ 2 32 hq hi.1 hi.2.1 hi.2.2 rfl (by omega) yB5 b off n rc (zg5 R) w (by rw[ze5,hn]) (by unfold maxLen;omega) (by omega) hR.cells (zC1 R)).mono ?_;rintro e w' ⟨v',rfl,ho,_,hb⟩;exact⟨v',rfl,hb,ho⟩
end Go.Proofs.YtkchnomkiboihaaGreat
namespace Go.Proofs.YtkchnomkiboihaaGreat
open Value renaming slice→za,int→zc,ownBlock→zm
open IntKind renaming i64→zb
open Obj renaming cells→zd
open Proofs.Tryz renaming prog→ze
open Go renaming World→zg
open Go.RowKit
open Q
def mkS:List RT->Int->List RT
 |[],_=>[]
 |s::S,k=>⟨k,s.a,zq5 (k+1) s.ids.length,s.c⟩::mkS S (k+1+(s.ids.length:Int))
def mkK:List RT->Int->Int
 |[],k=>k
 |s::S,k=>mkK S (k+1+(s.ids.length:Int))
theorem yt8:∀(S:List RT) (k:Int),(mkS S k).length=S.length
 |[],_=>rfl
 |s::S,k=>by simp[mkS,yt8 S]
theorem yj0:∀(S:List RT) (k:Int),(∀s∈S,s.ids.length<=1000)->k<=mkK S k/\mkK S k<=k+(S.length:Int)*1001
 |[],k,_=>by simp[mkK]
 |s::S,k,h=>by
  have h1:=yj0 S (k+1+(s.ids.length:Int)) (fun x hx=>h x (yh _ hx));have h2:=h s (ym ..);simp only[mkK,yg];omega
theorem yy9(P Q:List RT)(s:RT)(K:Int):(zg5 (P++s::Q)).set (P.length*2) (zc zb K)=zg5 (P++⟨K,s.a,s.ids,s.c⟩::Q):=by
 rw[zk1,zk1,zj9,zj9,yK _ _ (by rw[ze5];exact zQ _),ze5,yF];rfl
theorem PO.markV{w:zg}{base gr n rc:Nat}{P Q:List RT}{s:RT}{ls:Value}{L:List Int}(K:Int)(h:PO w base (za (some ⟨gr,0,none⟩) n rc) (P++s::Q) ls L)(hn:(P++s::Q).length=n):PO (w.setCell ⟨gr,P.length*2,none⟩ (zc zb K)) base (za (some ⟨gr,0,none⟩) n rc) (P++⟨K,s.a,s.ids,s.c⟩::Q) ls L:=by
 have hr:=h.r;rw[hn]at hr;obtain⟨cur,h4,_⟩:=zn3 hr;refine⟨?_,fun t ht=> ?_,ze6 h.l h4 (by decide)⟩
 ·have h1:=y62 (k:=P.length*2) (zc zb K) hr
  rw[yy9]at h1;have:(P++(⟨K,s.a,s.ids,s.c⟩:RT)::Q).length=n:=by rw[<-hn];simp
  rw[this];exact h1
 ·have:∃t'∈P++s::Q,t'.a=t.a/\t'.ids=t.ids/\t'.c=t.c:=by
   rcases yi.1 ht with h5|h5
   ·exact⟨t,qJ _ h5,rfl,rfl,rfl⟩
   ·rcases yn.1 h5 with h6|h6
    ·exact⟨s,by simp,by rw[h6],by rw[h6],by rw[h6]⟩
    ·exact⟨t,by simp[h6],rfl,rfl,rfl⟩
  obtain⟨t',h5,h6,h7,h8⟩:=this;rw[<-h6,<-h7,<-h8];exact ze6 (h.s t' h5) h4 (by decide)
theorem PO.markI{w w':zg}{base g:Nat}{P Q:List RT}{s:RT}{rs:Value}{la:Option Addr}{m lc:Nat}{L:List Int}{K:Int}{cur:Array Value}(h:PO w base rs (P++s::Q) (za la m lc) L)(hap:Apt (P++s::Q) la)(hs:s.a=some ⟨g,0,none⟩)(hrow:w.heap[g]? =some (.cells cur 2 (0,0)))(hg:w.grownBy w' (some g))(hr:w'.heap[g]? =some (.cells (zx1 cur K s.ids.length) 2 (0,0))):PO w' base rs (P++⟨s.v,s.a,zq5 K s.ids.length,s.c⟩::Q) (za la m lc) L:=by
 have oth:∀t∈P++s::Q,t.a≠s.a->w'.ownsRow base 2 1 (za t.a t.ids.length t.c) t.ids.length (t.ids.map (zc zb)):=fun t ht hne=>by
  refine zt1 (h.s t ht) hg (fun e=>hne ?_);rcases own_kinds (h.s t ht)with⟨e1,_⟩|⟨g1,c1,e1,_,_⟩
  ·rw[e1]at e;cases e
  ·rw[e1]at e
   simp only[xW]at e1;simp only[zm,xV]at e;rw[e1.1,hs,e]
 have hss:=h.s s (by simp);rw[hs]at hss;obtain⟨cur2,k1,k2,k3,k4,k5⟩:=zn3 hss;rw[hrow]at k1;simp only[xV,Obj.cells.injEq,qb]at k1;subst k1;refine⟨?_,fun t ht=> ?_,?_⟩
 ·have e1:zg5 (P++(⟨s.v,s.a,zq5 K s.ids.length,s.c⟩:RT)::Q)=zg5 (P++s::Q):=by
   rw[zk1,zk1,zj9,zj9];simp[zq8,zs1]
  have e2:(P++(⟨s.v,s.a,zq5 K s.ids.length,s.c⟩:RT)::Q).length=(P++s::Q).length:=by simp
  rw[e1,e2];exact zt1 h.r hg (zl5 h.r hrow (by decide))
 ·rcases yi.1 ht with h5|h5
  ·exact oth t (qJ _ h5) (fun e=>by rcases hap.head h5 with h9|h9;rw[h9,hs]at e;cases e;exact h9 e)
  ·rcases yn.1 h5 with h6|h6
   ·rw[h6]
    simp only[zs1];rw[hs];refine zm7 hr (by rw[zd3,k2]) k3 k4 k5 (by rw[qn,zs1,qt]) (fun j hj=> ?_);rw[qt]at hj;rw[zR _ _ j _ _ _ hr,zI2 cur K s.ids.length (by rw[k2];omega) j hj,ye,zF2 hj];rfl
   ·exact oth t (by simp[h6]) (fun e=>by rcases hap.tail h6 with h9|h9;rw[h9]at hs;cases hs;exact h9 e.symm)
 ·refine zt1 h.l hg (fun e=> ?_)
  rcases own_kinds h.l with⟨e1,_⟩|⟨g1,c1,e1,_,_⟩
  ·rw[e1]at e;cases e
  ·simp only[xW]at e1
   rw[e1.1]at e;simp only[zm,xV]at e;rcases hap.left (t:=s) (by simp)with h9|h9
   ·rw[h9]at e1;cases e1.1
   ·exact h9 (by rw[e1.1,e,hs])
theorem yI9:∀(S:List RT) (k:Int),(mkS S k).map RT.a=S.map RT.a
 |[],_=>rfl
 |s::S,k=>by simp[mkS,yI9 S]
theorem zK1(ra la:Option Addr)(n rc m lc base:Nat)(k0:Int)(S:List RT)(L:List Int)(w:zg)(hP:PO w base (za ra n rc) S (za la m lc) L)(hn:S.length=n)(hap:Apt S la)(hn1:n<=1000)(hi:∀s∈S,s.ids.length<=1000)(h0:0<=k0)(h1:k0<=1000000)(top:Nat)(hB1:∀g,ra=some ⟨g,0,none⟩->g<top)(hB2:∀a∈S.map RT.a,∀g,a=some ⟨g,0,none⟩->g<top):
 Calls ze 65 #[za ra n rc,zc zb k0] w fun e w'=>e=.returned (zc zb (mkK S k0))/\zb2 (fun b=>base<=b/\b<top) w w'/\PO w' base (za ra n rc) (mkS S k0) (za la m lc) L:=by
 have HP:=za4 hP;have HAP:=za4 hap;have HN:=za4 hn;have HI:=za4 hi;have HB1:=za4 hB1;have HB2:=za4 hB2;clear hP hap hn hi hB1 hB2;obtain⟨KE,HKE⟩:=nmd (mkK S k0);obtain⟨SE,HSE⟩:=nmd (mkS S k0);rw[HKE.X,HSE.X];go_enter Tryz.func65,Tryz.ntmps65
 go_wp2_with fail
 go_loopw[1,5] (fun kk t wr=>∃(P Q:List RT) (K:Int),P.length+Q.length=n/\t=zc zb (P.length:Int)/\kk=zc zb K/\0<=K/\K<=k0+(P.length:Int)*1001/\PO wr base (za ra n rc) (P++Q) (za la m lc) L/\(P++Q).map RT.a=S.map RT.a/\(∀s∈Q,s.ids.length<=1000)/\P++mkS Q K=SE/\mkK Q K=KE/\zb2 (fun b=>base<=b/\b<top) w wr) (fun _ t _=>n - (intOf t).toNat)
 case atStart=>exact⟨[],S,k0,by simpa using HN.X,rfl,rfl,h0,by simp,HP.X,rfl,HI.X,HSE.X,HKE.X,zb2.of_below (yV _ _)⟩
 case round=>
  clear HP;obtain⟨P,Q,K,hl,rfl,rfl,hK0,hK1,hp,ha,hq,hS,hKK,hG⟩:=hrel;have HP:=za4 hp;have HA:=za4 ha;have HQ:=za4 hq;have HS:=za4 hS;have HK:=za4 hKK;have HG:=za4 hG;obtain⟨i,HPL⟩:=nmd P.length;rw[HPL.X]at hl hK1⊢;clear hp ha hq hS hKK hG;cases Q with
  |nil=>
   have hiI:¬((i:Int)<(n:Int)):=by simp at hl;omega
   have e1:K=KE:=HK.X;have e2:P=SE:=by have:=HS.X;simpa[mkS]using this
   subst e1 e2;go_wp2;go_ret;exact⟨rfl,HG.X,by have:=HP.X;simpa using this⟩
  |cons s Q=>
   have hlt:i<n:=by simp at hl;omega
   have hiI:(i:Int)<(n:Int):=by omega
   have hsl:=HQ.X s (ym ..);have hPn:(P++s::Q).length=n:=by rw[xU,HPL.X];exact hl
   obtain⟨gr,e⟩:∃gr,ra=some ⟨gr,0,none⟩:=by
    have hr:=HP.X.r;rw[hPn]at hr;rcases own_kinds hr with⟨_,h9⟩|⟨g,c,e,_,_⟩
    ·omega
    ·simp only[xW]at e
     exact⟨g,e.1⟩
   subst e;have hr9:=HP.X.r;rw[hPn]at hr9;obtain⟨cr,hcr,hcs,hcn,-,hbg⟩:=zn3 hr9;obtain⟨x1,x2⟩:=zp0 (P++s::Q) i (by rw[hPn];exact hlt);have e9:(P++s::Q).getD i rt0=s:=by rw[zM,yw (by rw[HPL.X];exact zQ _),HPL.X,yF];rfl
   rw[e9]at x1 x2;have y0:=(zd5 hr9 x1).1;have yf:=fun j=>yU _ _ j _ _ hcr;have P2:Hid (PO (wr.setCell ⟨gr,i*2,none⟩ (zc zb K)) base (za (some ⟨gr,0,none⟩) n rc) (P++⟨K,s.a,s.ids,s.c⟩::Q) (za la m lc) L):=by have:=HP.X.markV K hPn;rw[HPL.X]at this;exact this
   have G2:Hid (zb2 (fun b=>base<=b/\b<top) w (wr.setCell ⟨gr,i*2,none⟩ (zc zb K))):=HG.X.trans (zb2.of_grown (ze2 _ _ _ _) ⟨hbg,HB1.X gr rfl⟩);have y1:(wr.setCell ⟨gr,i*2,none⟩ (zc zb K)).cell? ⟨gr,i*2+1,none⟩=some (za s.a s.ids.length s.c):=by
    have h5:=P2.X.r;have h6:(P++(⟨K,s.a,s.ids,s.c⟩:RT)::Q).length=n:=by rw[<-hPn];simp
    rw[h6]at h5;obtain⟨_,z2⟩:=zp0 (P++(⟨K,s.a,s.ids,s.c⟩:RT)::Q) i (by rw[h6];exact hlt);have e8:(P++(⟨K,s.a,s.ids,s.c⟩:RT)::Q).getD i rt0=⟨K,s.a,s.ids,s.c⟩:=by rw[zM,yw (by rw[HPL.X];exact zQ _),HPL.X,yF];rfl
    rw[e8]at z2;exact(zd5 h5 z2).1
   have hwk:IntKind.i64.wrap (K+1)=K+1:=by rw[xk];omega
   have AP2:Hid (Apt (P++⟨K,s.a,s.ids,s.c⟩::Q) la):=HAP.X.keys (by have:=HA.X;simpa using this);have HS2:Hid (P++(⟨K,s.a,zq5 (K+1) s.ids.length,s.c⟩:RT)::mkS Q (K+1+(s.ids.length:Int))=SE):=HS.X;have HK2:Hid (mkK Q (K+1+(s.ids.length:Int))=KE):=HK.X;have HA2:Hid ((P++(⟨K,s.a,zq5 (K+1) s.ids.length,s.c⟩:RT)::Q).map RT.a=S.map RT.a):=by have:=HA.X;show _=_;rw[<-this];simp
   have HQ2:Hid (∀t∈Q,t.ids.length<=1000):=fun t ht=>HQ.X t (yh _ ht);have HSA:Hid (∀g,s.a=some ⟨g,0,none⟩->g<top):=fun g e=>HB2.X s.a (by rw[<-HA.X];simp) g e
   clear HP HS HK HA HQ HG hr9 x1 x2 e9;obtain⟨sv,sa,sids,sc⟩:=s;simp only at hsl y0 y1 P2 AP2 HS2 HK2 HA2 HSA;obtain⟨sl,HSL⟩:=nmd sids.length;rw[HSL.X]at hsl y1 HS2 HK2 HA2;have MI:Calls ze 22 #[za sa sl sc,zc zb (K+1)] (wr.setCell ⟨gr,i*2,none⟩ (zc zb K)) fun e w'=>e=.returned (zc zb (K+1+(sl:Int)))/\PO w' base (za (some ⟨gr,0,none⟩) n rc) (P++⟨K,sa,zq5 (K+1) sl,sc⟩::Q) (za la m lc) L/\zb2 (fun b=>base<=b/\b<top) w w':=by
    have hs9:=P2.X.s ⟨K,sa,sids,sc⟩ (by simp);simp only[HSL.X]at hs9;rcases own_kinds hs9 with⟨e,hz⟩|⟨g,c,e,_,_⟩
    ·subst hz
     refine(zs9 sa sc (K+1) _).mono ?_;rintro e w' ⟨rfl,rfl⟩;have:sids=[]:=qz.1 HSL.X;subst this;exact⟨by simp,P2.X,G2.X⟩
    ·simp only[xW,qg]at e
     obtain⟨rfl,rfl⟩:=e;obtain⟨cur,k1,k2,k3,k4,k5⟩:=zn3 hs9;refine(zi5 g sl sc (K+1) cur _ _ k1 (by omega) (by omega) (by omega) (by omega)).mono ?_;rintro e w' ⟨rfl,hg,hr⟩;have PM:=P2.X.markI (K:=K+1) AP2.X rfl k1 hg (by simp only[HSL.X];exact hr);simp only[HSL.X]at PM;exact⟨rfl,PM,G2.X.trans (zb2.of_grown hg ⟨k5,HSA.X g rfl⟩)⟩
   go_wp2_with fail
   refine MI.mono ?_;rintro e w3 ⟨rfl,hp,hg⟩;obtain⟨K2,HKZ⟩:=nmd (K+1+(sl:Int));have hK2:0<=K2/\K2<=k0+((i:Int)+1)*1001:=by have:=HKZ.X;omega
   rw[HKZ.X]at HS2 HK2⊢;have P3:=za4 hp;have G3:=za4 hg;clear MI hp hg P2 G2 AP2 y0 y1 yf;go_wp2
   first
    |exact⟨⟨P++[⟨K,sa,zq5 (K+1) sl,sc⟩],Q,K2,by simp;simp at hl;have:=HPL.X;omega,by simp[HPL.X],rfl,hK2.1,by simp[HPL.X];omega,by simpa using P3.X,by simpa using HA2.X,HQ2.X,by simpa using HS2.X,HK2.X,G3.X⟩,by simp[intOf];omega⟩
    |(go_roundw
      case rel=>exact⟨P++[⟨K,sa,zq5 (K+1) sl,sc⟩],Q,K2,by simp;simp at hl;have:=HPL.X;omega,by simp[HPL.X],rfl,hK2.1,by simp[HPL.X];omega,by simpa using P3.X,by simpa using HA2.X,HQ2.X,by simpa using HS2.X,HK2.X,G3.X⟩
      case measure=>simp[intOf];omega)
theorem zJ5(ra:Option Addr)(n rc base:Nat)(k0:Int)(S:List RT)(ls:Value)(L:List Int)(w:zg)(hP:PO w base (za ra n rc) (mkS S k0) ls L)(hn:S.length=n)(hn1:n<=1000)(hi:∀s∈S,s.ids.length<=1000)(h0:0<=k0)(h1:k0<=1000000):
 Calls ze 66 #[za ra n rc,zc zb k0] w fun e w'=>e=.returned (zc zb (mkK S k0))/\w'=w:=by
 have HP:=za4 hP;have HN:Hid ((mkS S k0).length=n):=by rw[yt8];exact hn
 have HI:=za4 hi;have hn9:S.length=n:=hn;clear hP hn hi;obtain⟨KE,HKE⟩:=nmd (mkK S k0);rw[HKE.X];go_enter Tryz.func66,Tryz.ntmps66
 go_wp2_with fail
 go_loop [1,5] (fun kk t=>∃(P Q:List RT) (K:Int),P.length+Q.length=n/\t=zc zb (P.length:Int)/\kk=zc zb K/\0<=K/\K<=k0+(P.length:Int)*1001/\(∀s∈Q,s.ids.length<=1000)/\mkS S k0=P++mkS Q K/\mkK Q K=KE) (fun _ t=>n - (intOf t).toNat)
 case atStart=>exact⟨[],S,k0,by simpa using hn9,rfl,rfl,h0,by simp,HI.X,rfl,HKE.X⟩
 case round=>
  obtain⟨P,Q,K,hl,rfl,rfl,hK0,hK1,hq,hS,hKK⟩:=hrel;have HQ:=za4 hq;have HS:=za4 hS;have HK:=za4 hKK;obtain⟨i,HPL⟩:=nmd P.length;rw[HPL.X]at hl hK1⊢;clear hq hS hKK;cases Q with
  |nil=>
   have hiI:¬((i:Int)<(n:Int)):=by simp at hl;omega
   have e1:K=KE:=HK.X;subst e1;go_wp2;go_ret;exact⟨rfl,rfl⟩
  |cons s Q=>
   have hlt:i<n:=by simp at hl;omega
   have hiI:(i:Int)<(n:Int):=by omega
   have hsl:=HQ.X s (ym ..);have hr9:=HP.X.r;rw[HN.X]at hr9;obtain⟨gr,e⟩:∃gr,ra=some ⟨gr,0,none⟩:=by
    rcases own_kinds hr9 with⟨_,h9⟩|⟨g,c,e,_,_⟩
    ·omega
    ·simp only[xW]at e
     exact⟨g,e.1⟩
   subst e;obtain⟨x1,x2⟩:=zp0 (mkS S k0) i (by rw[HN.X];exact hlt);have e9:(mkS S k0).getD i rt0=⟨K,s.a,zq5 (K+1) s.ids.length,s.c⟩:=by rw[HS.X,zM,yw (by rw[HPL.X];exact zQ _),HPL.X,yF];rfl
   have hmem:(⟨K,s.a,zq5 (K+1) s.ids.length,s.c⟩:RT)∈mkS S k0:=by rw[HS.X];simp[mkS]
   have hs9:=HP.X.s _ hmem;rw[e9]at x1 x2;simp only[zs1]at x1 x2 hs9;have y0:=(zd5 hr9 x1).1;have y1:=(zd5 hr9 x2).1;have hwk:IntKind.i64.wrap (K+1)=K+1:=by rw[xk];omega
   have HS2:Hid (mkS S k0=(P++[⟨K,s.a,zq5 (K+1) s.ids.length,s.c⟩])++mkS Q (K+1+(s.ids.length:Int))):=by show _=_;rw[HS.X];simp[mkS]
   have HK2:Hid (mkK Q (K+1+(s.ids.length:Int))=KE):=HK.X;have HQ2:Hid (∀t∈Q,t.ids.length<=1000):=fun t ht=>HQ.X t (yh _ ht);clear HS HK HQ hr9 x1 x2 e9 hmem;obtain⟨sv,sa,sids,sc⟩:=s;simp only at hsl y0 y1 HS2 HK2 hs9;obtain⟨sl,HSL⟩:=nmd sids.length;rw[HSL.X]at hsl y1 HS2 HK2 hs9;have HI9:Calls ze 24 #[za sa sl sc,zc zb (K+1)] w fun e w'=>e=.returned (zc zb (K+1+(sl:Int)))/\w'=w:=by
    rcases own_kinds hs9 with⟨e,hz⟩|⟨g,c,e,_,_⟩
    ·subst hz
     refine(zs8 sa sc (K+1) _).mono ?_;rintro e w' ⟨rfl,rfl⟩;exact⟨by simp,rfl⟩
    ·simp only[xW,qg]at e
     obtain⟨rfl,rfl⟩:=e;exact zs4 g sl sc (K+1) w (fun j hj=>(zd5 hs9 (by rw[ye,zF2 hj];rfl)).1) (by omega) (by omega) (by omega)
   have hvv:(K !=K)=false:=by simp
   clear hs9
   go_wp2_with fail
   refine HI9.mono ?_;rintro e w3 ⟨rfl,rfl⟩;obtain⟨K2,HKZ⟩:=nmd (K+1+(sl:Int));have hK2:0<=K2/\K2<=k0+((i:Int)+1)*1001:=by have:=HKZ.X;omega
   rw[HKZ.X]at HS2 HK2⊢;obtain⟨hK20,hK21⟩:=hK2;have hK2n:¬K2<0:=by omega
   clear HI9;go_wp2
   go_round
   case rel=>exact⟨P++[⟨K,sa,zq5 (K+1) sl,sc⟩],Q,K2,by simp;simp at hl;have:=HPL.X;omega,by simp[HPL.X],rfl,hK20,by simp[HPL.X];omega,HQ2.X,HS2.X,HK2.X⟩
   case measure=>simp[intOf];omega
theorem PO.but{w w':zg}{base:Nat}{rs ls:Value}{S:List RT}{L:List Int}{C:Nat->Prop}(h:PO w base rs S ls L)(hG:zb2 C w w')(hs:∀b,C b->b<base):PO w' base rs S ls L:=⟨hG.owns h.r hs,fun s h9=>hG.owns (h.s s h9) hs,hG.owns h.l hs⟩
theorem PO.markL{w w':zg}{base gl m lc:Nat}{S:List RT}{rs:Value}{L:List Int}{K:Int}{cur:Array Value}(h:PO w base rs S (za (some ⟨gl,0,none⟩) m lc) L)(hm:L.length=m)(hap:Apt S (some ⟨gl,0,none⟩))(hrow:w.heap[gl]? =some (.cells cur 2 (0,0)))(hg:w.grownBy w' (some gl))(hr:w'.heap[gl]? =some (.cells (zx1 cur K m) 2 (0,0))):PO w' base rs S (za (some ⟨gl,0,none⟩) m lc) (zq5 K m):=by
 have hl:=h.l;rw[hm]at hl;obtain⟨cur2,k1,k2,k3,k4,k5⟩:=zn3 hl;rw[hrow]at k1;simp only[xV,Obj.cells.injEq,qb]at k1;subst k1;refine⟨zt1 h.r hg (zl5 h.r hrow (by decide)),fun t ht=>zt1 (h.s t ht) hg (fun e=> ?_),?_⟩
 ·rcases own_kinds (h.s t ht)with⟨e1,_⟩|⟨g1,c1,e1,_,_⟩
  ·rw[e1]at e;cases e
  ·simp only[xW]at e1
   rw[e1.1]at e;simp only[zm,xV]at e;rcases hap.left ht with h9|h9
   ·cases h9
   ·exact h9 (by rw[e1.1,e])
 ·rw[zs1]
  refine zm7 hr (by rw[zd3,k2]) k3 k4 k5 (by rw[qn,zs1,qt]) (fun j hj=> ?_);rw[qt]at hj;rw[zR _ _ j _ _ _ hr,zI2 cur K m (by rw[k2];omega) j hj,ye,zF2 hj];rfl
theorem zX5(ra la:Option Addr)(n rc m lc base:Nat)(k0:Int)(S:List RT)(L:List Int)(w:zg)(hP:PO w base (za ra n rc) S (za la m lc) L)(hn:S.length=n)(hm:L.length=m)(hap:Apt S la)(hn1:n<=1000)(hm1:m<=1000)(hi:∀s∈S,s.ids.length<=1000)(h0:0<=k0)(h1:k0<=1000000)(top:Nat)(htop:top<=w.heap.size)(hB1:∀g,ra=some ⟨g,0,none⟩->g<top)(hB2:∀a∈S.map RT.a,∀g,a=some ⟨g,0,none⟩->g<top)(hB3:∀g,la=some ⟨g,0,none⟩->g<top):
 Calls ze 21 #[.agg #[za ra n rc,za la m lc],zc zb k0] w fun e w'=>e=.returned (zc zb (mkK S k0+(m:Int)))/\zb2 (fun b=>base<=b/\b<top) w w'/\PO w' base (za ra n rc) (mkS S k0) (za la m lc) (zq5 (mkK S k0) m):=by
 have hkb:=yj0 S k0 hi;have hA:Below w.heap.size w (w.alloc (zd #[za ra n rc,za la m lc] 33)):=zK _;have MR:=zK1 ra la n rc m lc base k0 S L _ (hP.below hA) hn hap hn1 hi h0 h1 top hB1 hB2;have HLB:=za4 hB3;have HAP:Hid (Apt (mkS S k0) la):=hap.keys (yI9 S k0);have X0:Hid ((w.alloc (zd #[za ra n rc,za la m lc] 33)).heap[w.heap.size]? =some (zd #[za ra n rc,za la m lc] 33 (0,0))):=zN _ _;rw[hn]at hkb;have hKb:k0<=mkK S k0/\mkK S k0<=3000000:=by omega
 obtain⟨K,HKK⟩:=nmd (mkK S k0);rw[HKK.X]at MR hKb⊢;have HM:=za4 hm;obtain⟨hK0,hK1⟩:=hKb;clear hP hap hi hn hm hkb hB1 hB2 hB3;obtain⟨c0,c1⟩:=za1 X0.X;go_enter Tryz.func21,Tryz.ntmps21
 go_wp2_with fail
 refine MR.mono ?_;rintro e w1 ⟨rfl,hG,hp⟩;have X1:Hid (w1.heap[w.heap.size]? =some (zd #[za ra n rc,za la m lc] 33 (0,0))):=hG.row X0.X (fun h=>by omega);have B1:Hid (zb2 (fun b=>base<=b/\b<top) w w1):=(zb2.of_below hA).trans hG;have P1:=za4 hp;clear hG hp MR X0 c0 c1 hA;obtain⟨c0,c1⟩:=za1 X1.X;have ML:Calls ze 22 #[za la m lc,zc zb K] w1 fun e w'=>e=.returned (zc zb (K+(m:Int)))/\zb2 (fun b=>base<=b/\b<top) w w'/\PO w' base (za ra n rc) (mkS S k0) (za la m lc) (zq5 K m):=by
  have hl:=P1.X.l;rw[HM.X]at hl;rcases own_kinds hl with⟨e,hz⟩|⟨g,c,e,_,_⟩
  ·subst hz
   refine(zs9 la lc K _).mono ?_;rintro e w' ⟨rfl,rfl⟩;have:L=[]:=qz.1 HM.X;subst this;exact⟨by simp,B1.X,P1.X⟩
  ·simp only[xW,qg]at e
   obtain⟨rfl,rfl⟩:=e;obtain⟨cur,k1,k2,k3,k4,k5⟩:=zn3 hl;refine(zi5 g m lc K cur _ _ k1 (by omega) (by omega) (by omega) (by omega)).mono ?_;rintro e w' ⟨rfl,hg,hr⟩;refine⟨rfl,B1.X.trans (zb2.of_grown hg ⟨k5,HLB.X g rfl⟩),P1.X.markL HM.X HAP.X k1 hg hr⟩
 go_wp2_with fail
 refine ML.mono ?_;rintro e w2 ⟨rfl,hb2,hp2⟩;clear ML;go_wp2;go_ret;exact⟨rfl,hb2,hp2⟩
theorem zW7(ra la:Option Addr)(n rc m lc base:Nat)(k0:Int)(S:List RT)(w:zg)(hP:PO w base (za ra n rc) (mkS S k0) (za la m lc) (zq5 (mkK S k0) m))(hn:S.length=n)(hn1:n<=1000)(hm1:m<=1000)(hi:∀s∈S,s.ids.length<=1000)(h0:0<=k0)(h1:k0<=1000000):
 Calls ze 23 #[.agg #[za ra n rc,za la m lc],zc zb k0] w fun e w'=>e=.returned (zc zb (mkK S k0+(m:Int)))/\Below w.heap.size w w':=by
 have hkb:=yj0 S k0 hi;have hA:Below w.heap.size w (w.alloc (zd #[za ra n rc,za la m lc] 33)):=zK _;have HR:=zJ5 ra n rc base k0 S _ _ _ (hP.below hA) hn hn1 hi h0 h1;have X0:Hid ((w.alloc (zd #[za ra n rc,za la m lc] 33)).heap[w.heap.size]? =some (zd #[za ra n rc,za la m lc] 33 (0,0))):=zN _ _;rw[hn]at hkb;have hKb:k0<=mkK S k0/\mkK S k0<=3000000:=by omega
 have hl:=(hP.below hA).l;rw[zs1]at hl;obtain⟨K,HKK⟩:=nmd (mkK S k0);rw[HKK.X]at HR hKb hl⊢;obtain⟨hK0,hK1⟩:=hKb;have HB0:=za4 hA;have HL:Calls ze 24 #[za la m lc,zc zb K] (w.alloc (zd #[za ra n rc,za la m lc] 33)) fun e w'=>e=.returned (zc zb (K+(m:Int)))/\w'=w.alloc (zd #[za ra n rc,za la m lc] 33):=by
  rcases own_kinds hl with⟨e,hz⟩|⟨g,c,e,_,_⟩
  ·subst hz
   refine(zs8 la lc K _).mono ?_;rintro e w' ⟨rfl,rfl⟩;exact⟨by simp,rfl⟩
  ·simp only[xW,qg]at e
   obtain⟨rfl,rfl⟩:=e;exact zs4 g m lc K _ (fun j hj=>(zd5 hl (by rw[ye,zF2 hj];rfl)).1) (by omega) (by omega) (by omega)
 clear hP hi hn hkb hA hl;obtain⟨c0,c1⟩:=za1 X0.X;have hKn:¬K<0:=by omega
 have hKm:¬K+(m:Int)<0:=by omega
 go_enter Tryz.func23,Tryz.ntmps23
 go_wp2_with fail
 generalize w.alloc (zd #[za ra n rc,za la m lc] 33)=W0 at*;refine HR.mono ?_;rintro e w1 ⟨rfl,rfl⟩
 go_wp2_with fail
 refine HL.mono ?_;rintro e w2 ⟨rfl,rfl⟩;go_wp2;go_ret;exact⟨rfl,HB0.X⟩
