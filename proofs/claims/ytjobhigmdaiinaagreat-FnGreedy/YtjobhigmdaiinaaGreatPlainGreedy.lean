import Derived.Test.YtjobhigmdaiinaaGreatPack3
import Derived.Test.YtjobhigmdaiinaaGreatPack30
import Derived.Test.YtjobhigmdaiinaaGreatPack33
namespace Go.Proofs.YtjobhigmdaiinaaGreat
open Go.RowKit
theorem zN2{R:List RT}(h:R.Pairwise (fun a b=>a.v<b.v)):ze1 R:=fun j h1 h2=>by
 have h3:=(List.pairwise_iff_getElem.1 h) (j - 1) j (by omega) h2 (by omega);simpa[List.getD_eq_getElem?_getD,List.getElem?_eq_getElem h2,List.getElem?_eq_getElem (show j - 1<R.length by omega)]using h3
theorem yb6{R:List RT}{r:RT}(h:ze1 R):ze1 (wrL R r):=by
 apply zN2;unfold wrL;have hp:=h.pw;refine List.pairwise_append.2 ⟨hp.sublist List.filter_sublist,List.pairwise_append.2 ⟨by split<;>simp,hp.sublist List.filter_sublist,fun a ha b hb=> ?_⟩,fun a ha b hb=> ?_⟩
 ·have e:a=r:=by
   by_cases e:r.ids=[]
   ·rw[if_pos e]at ha;cases ha
   ·rw[if_neg e]at ha;exact List.mem_singleton.1 ha
  rw[e];exact of_decide_eq_true (List.mem_filter.1 hb).2
 ·have h1:a.v<r.v:=of_decide_eq_true (List.mem_filter.1 ha).2
  rcases List.mem_append.1 hb with hb|hb
  ·have e:b=r:=by
    by_cases e:r.ids=[]
    ·rw[if_pos e]at hb;cases hb
    ·rw[if_neg e]at hb;exact List.mem_singleton.1 hb
   rw[e];exact h1
  ·have h2:r.v<b.v:=of_decide_eq_true (List.mem_filter.1 hb).2
   omega
theorem zL0{R S:List RT}(h:S.map RT.key=R.map RT.key)(hr:ze1 R):ze1 S:=fun j h1 h2=>by
 have hl:S.length=R.length:=by have:=congrArg List.length h;simpa using this
 rw[(zK5 h (j - 1)).1,(zK5 h j).1];exact hr j h1 (by omega)
theorem yo4{id veh:Int}{n:Nat}{s:zh4}(h:s∈sp1 id veh n):s.1=id:=by
 unfold sp1 at h;obtain⟨k,_,rfl⟩:=List.mem_map.1 h;rfl
theorem ye0{R:List RT}{V:List Int}{id:Int}{s:zh4}:∀k,s∈sp2 R V id k->s.1=id
 |0,h=>by cases h
 |k+1,h=>by
  rcases List.mem_append.1 (show s∈sp2 R V id k++_ from h)with h|h
  ·exact ye0 k h
  ·exact yo4 h
theorem zN9{R:List RT}{V:List Int}{kv:Nat}{L:List Int}{s:zh4}:∀i,i<=L.length->s∈sp3 R V kv L i->s.1∈L
 |0,_,h=>by cases h
 |i+1,hi,h=>by
  rcases List.mem_append.1 (show s∈sp3 R V kv L i++_ from h)with h|h
  ·exact zN9 i (by omega) h
  ·rw[ye0 _ h,List.getD_eq_getElem?_getD,List.getElem?_eq_getElem (by omega)]
   simp
theorem yq5{L:List Int}{x:Int}(h:x∈L):(zh7 L x).length<L.length:=by
 unfold zh7;exact List.length_filter_lt_length_iff_exists.2 ⟨x,h,by simp⟩
theorem zU4(R:List RT)(v:Int):(R.filter (fun x=>decide (x.v<v))).length+(R.filter (fun x=>decide (v<x.v))).length<=R.length:=by
 induction R with
 |nil=>simp
 |cons x R ih=>
  rw[List.filter_cons,List.filter_cons];split<;>split<;>rename_i h2 h3
  ·have:=of_decide_eq_true h2;have:=of_decide_eq_true h3;omega
  ·simp only[List.length_cons];omega
  ·simp only[List.length_cons];omega
  ·simp only[List.length_cons];omega
section
variable (n fine:Int) (zs os vs:List Int) (ko kv:Nat)
theorem zp3{R:List RT}{L:List Int}(h:(zm4 n fine zs os vs ko kv R L).f=true):(zo2 n fine zs os vs ko kv R L).length<L.length:=by
 have hm:=z26 (ok:=gOk n fine zs os vs ko kv R) (dl:=gD n zs os vs ko kv R) (sp3 R vs kv L L.length);have h1:=(hm h).1;unfold zo2;rw[if_pos h];exact yq5 (zN9 _ (Nat.le_refl _) h1)
theorem z32{R:List RT}{L:List Int}:(zo8 n fine zs os vs ko kv R L).length<=R.length+1:=by
 unfold zo8;split
 ·generalize(oneT R (zm4 n fine zs os vs ko kv R L).s)=t
  have h1:=zU4 R t.v;have h2:(if t.ids=[]then([]:List RT)else [t]).length<=1:=by split<;>simp
  unfold wrL;rw[List.length_append,List.length_append];omega
 ·omega
theorem zK6{R:List RT}{L:List Int}(h:ze1 R):ze1 (zo8 n fine zs os vs ko kv R L):=by
 unfold zo8;split
 ·exact yb6 h
 ·exact h
def grd:Nat->List RT->List Int->List RT×List Int
 |0,R,L=>(R,L)
 |k+1,R,L=>if(zm4 n fine zs os vs ko kv R L).f then grd k (zo8 n fine zs os vs ko kv R L) (zo2 n fine zs os vs ko kv R L)else(R,L)
theorem z44:∀(k:Nat) {R S:List RT} (L:List Int),S.map RT.key=R.map RT.key->(grd n fine zs os vs ko kv k S L).1.map RT.key=(grd n fine zs os vs ko kv k R L).1.map RT.key/\(grd n fine zs os vs ko kv k S L).2=(grd n fine zs os vs ko kv k R L).2
 |0,_,_,_,h=>⟨h,rfl⟩
 |k+1,R,S,L,h=>by
  unfold grd;rw[z29 h];by_cases hf:(zm4 n fine zs os vs ko kv R L).f=true
  ·rw[if_pos hf,if_pos hf]
   have e:zo2 n fine zs os vs ko kv S L=zo2 n fine zs os vs ko kv R L:=by unfold zo2;rw[z29 h]
   rw[e];exact z44 k _ (zR7 h n fine zs os vs ko kv L)
  ·rw[if_neg hf,if_neg hf]
   exact⟨h,rfl⟩
theorem zP5:∀(m k:Nat) (R:List RT) (L:List Int),L.length<=m->m<=k->grd n fine zs os vs ko kv k R L=grd n fine zs os vs ko kv m R L
 |0,0,_,_,_,_=>rfl
 |0,k+1,R,L,h,_=>by
  have hf:¬(zm4 n fine zs os vs ko kv R L).f=true:=fun hf=>by have:=zp3 n fine zs os vs ko kv hf;omega
  show(if _ then _ else _)=_;rw[if_neg hf];rfl
 |m+1,k+1,R,L,h,hk=>by
  unfold grd;by_cases hf:(zm4 n fine zs os vs ko kv R L).f=true
  ·rw[if_pos hf,if_pos hf]
   have:=zp3 n fine zs os vs ko kv hf;exact zP5 m k _ _ (by omega) (by omega)
  ·rw[if_neg hf,if_neg hf]
theorem zB8{R:List RT}{L:List Int}(hf:(zm4 n fine zs os vs ko kv R L).f=true):grd n fine zs os vs ko kv L.length R L=grd n fine zs os vs ko kv (zo2 n fine zs os vs ko kv R L).length (zo8 n fine zs os vs ko kv R L) (zo2 n fine zs os vs ko kv R L):=by
 have h:=zp3 n fine zs os vs ko kv hf;obtain⟨k,hk⟩:∃k,L.length=k+1:=⟨L.length - 1,by omega⟩;rw[hk];show(if _ then _ else _)=_;rw[if_pos hf];exact zP5 n fine zs os vs ko kv _ _ _ _ (Nat.le_refl _) (by omega)
theorem zD0{R:List RT}{L:List Int}(hf:(zm4 n fine zs os vs ko kv R L).f=false):grd n fine zs os vs ko kv L.length R L=(R,L):=by
 cases h:L.length with
 |zero=>rfl
 |succ k=>
  show(if _ then _ else _)=_;rw[if_neg (by rw[hf];simp)]
theorem yb3{R:List RT}{L:List Int}(hi:∀r∈R,r.ids≠[]/\r.ids.length<=12)(hn:R.length<=100)(hl:L.length<=100):∀r∈zo8 n fine zs os vs ko kv R L,r.ids≠[]/\r.ids.length<=12:=by
 have hk:(R.map (fun r=>(⟨r.v,r.a,r.ids,r.ids.length⟩:RT))).map RT.key=R.map RT.key:=by rw[List.map_map];rfl
 have h:=zT1 (n:=n) (fine:=fine) (zs:=zs) (os:=os) (vs:=vs) (ko:=ko) (kv:=kv) (R:=R.map (fun r=>(⟨r.v,r.a,r.ids,r.ids.length⟩:RT))) (L:=L) (fun r hr=>by
  obtain⟨x,hx,rfl⟩:=List.mem_map.1 hr;exact⟨(hi x hx).1,(hi x hx).2,Nat.le_refl _⟩) (by simpa using hn) hl
 exact zo4 (zR7 hk n fine zs os vs ko kv L).symm h.1
theorem ym6:∀(k:Nat) (R:List RT) (L:List Int),(∀r∈R,r.ids≠[]/\r.ids.length<=12)->R.length+L.length<=100->(∀r∈(grd n fine zs os vs ko kv k R L).1,r.ids≠[]/\r.ids.length<=12)/\(grd n fine zs os vs ko kv k R L).1.length+(grd n fine zs os vs ko kv k R L).2.length<=100
 |0,_,_,h1,h2=>⟨h1,h2⟩
 |k+1,R,L,h1,h2=>by
  unfold grd;by_cases hf:(zm4 n fine zs os vs ko kv R L).f=true
  ·rw[if_pos hf]
   have h3:=zp3 n fine zs os vs ko kv hf;have h4:=z32 n fine zs os vs ko kv (R:=R) (L:=L);exact ym6 k _ _ (yb3 n fine zs os vs ko kv h1 (by omega) (by omega)) (by omega)
  ·rw[if_neg hf]
   exact⟨h1,h2⟩
noncomputable def gaF(R:List RT)(L:List Int):Bool:=if zd7 n zs os vs ko kv fine R L=0 then true else false
noncomputable def gaR(R:List RT)(L:List Int):List RT:=if zd7 n zs os vs ko kv fine R L=0 then(grd n fine zs os vs ko kv L.length R L).1 else []
noncomputable def gaL(R:List RT)(L:List Int):List Int:=if zd7 n zs os vs ko kv fine R L=0 then(grd n fine zs os vs ko kv L.length R L).2 else []
theorem yu4(R:List RT)(L:List Int):(∀r∈gaR n fine zs os vs ko kv R L,r.ids≠[]/\r.ids.length<=12)/\(gaR n fine zs os vs ko kv R L).length<=500/\(gaL n fine zs os vs ko kv R L).length<=500:=by
 unfold gaR gaL;by_cases h:zd7 n zs os vs ko kv fine R L=0
 ·rw[if_pos h,if_pos h]
  have hk:(R.map (fun r=>(⟨r.v,r.a,r.ids,r.ids.length⟩:RT))).map RT.key=R.map RT.key:=by rw[List.map_map];rfl
  obtain⟨_,_,h3,h4,h5,_⟩:=zz7 (n:=n) (zs:=zs) (os:=os) (vs:=vs) (ko:=ko) (kv:=kv) (fine:=fine) (R:=R.map (fun r=>(⟨r.v,r.a,r.ids,r.ids.length⟩:RT))) (L:=L) (by rw[zr0 L hk];exact h) (fun r hr=>by
   obtain⟨x,_,rfl⟩:=List.mem_map.1 hr;exact Nat.le_refl _)
  have h6:=ym6 n fine zs os vs ko kv L.length R L (zo4 hk.symm (fun r hr=>⟨(h3 r hr).1,(h3 r hr).2.1⟩)) (by simp at h4;omega);exact⟨h6.1,by omega,by omega⟩
 ·rw[if_neg h,if_neg h]
  exact⟨fun r hr=>by simp at hr,by simp,by simp⟩
end
end Go.Proofs.YtjobhigmdaiinaaGreat
