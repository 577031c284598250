import Derived.Test.YtjobhigmdaiinaaGreatPack36
import Derived.Test.YtjobhigmdaiinaaGreatServedBy
namespace Go.Proofs.YtjobhigmdaiinaaGreat
open Go.RowKit
theorem yg9{os:List Int}{ko:Nat}{L:List Int}(h:ze3 os ko L L.length):∀(d i:Nat),i+d+1<L.length->L.getD i 0<L.getD (i+d+1) 0
 |0,i,hi=>(h (i+1) hi).2 (by omega)
 |d+1,i,hi=>Int.lt_trans (yg9 h d i (by omega)) ((h (i+d+1+1) hi).2 (by omega))
theorem zZ3{os:List Int}{ko:Nat}{L:List Int}(h:ze3 os ko L L.length):L.Pairwise (· <·):=by
 rw[List.pairwise_iff_getElem];intro i j hi hj hij;have:=yg9 h (j - i - 1) i (by omega);rw[show i+(j - i - 1)+1=j by omega]at this;simpa[List.getD_eq_getElem?_getD,List.getElem?_eq_getElem hi,List.getElem?_eq_getElem hj]using this
end Go.Proofs.YtjobhigmdaiinaaGreat
