/-
  What the claimed theorem reaches, part Q35.
-/
import Derived.Test.YtdpmeoflgpaljaaGreatDoorQ31
import Derived.Test.YtdpmeoflgpaljaaGreatDoorQ00
namespace Go.Proofs.YtdpmeoflgpaljaaGreatDoor
open Go.RowKit Go.Lib
set_option maxRecDepth 100000
set_option maxHeartbeats 8000000
def slotT (B:List UInt8) (k:Nat):List UInt8:=(B.drop (20 * k)).take 17
theorem slotT_len {B:List UInt8} (h:B.length=64) (k:Nat) (hk:k < 2):(slotT B k).length=17:=by simp[slotT,h];omega
theorem slotT_split {B:List UInt8} (h:B.length=64) (k:Nat) (hk:k < 2):slotT B k=slotL B k++[slotM B k]:=by
 unfold slotT slotL slotM
 rw[List.take_succ_eq_append_getElem (by rw[List.length_drop];omega),List.getElem_drop,List.getD_eq_getElem?_getD,List.getElem?_eq_getElem (by omega)]
 rfl
theorem beN_piece (T:List UInt8) (a:Nat):beN ((T.drop a).take 4) 0 4=beN T a 4:=by
 have e:∀i,i < 4->((T.drop a).take 4).getD (0+i) 0=T.getD (a+i) 0:=fun i hi=>by
  rw[Nat.zero_add,List.getD_eq_getElem?_getD,List.getD_eq_getElem?_getD,List.getElem?_take,if_pos hi,List.getElem?_drop]
 simp only[beN]
 rw[e 0 (by omega),e 1 (by omega),e 2 (by omega),e 3 (by omega)]
theorem beN_left (L:List UInt8) (v:UInt8) (a:Nat) (h:a+4<=L.length):beN (L++[v]) a 4=beN L a 4:=by
 have e:∀i,i < 4->(L++[v]).getD (a+i) 0=L.getD (a+i) 0:=fun i hi=>by
  rw[List.getD_eq_getElem?_getD,List.getD_eq_getElem?_getD,List.getElem?_append_left (by omega)]
 simp only[beN]
 rw[e 0 (by omega),e 1 (by omega),e 2 (by omega),e 3 (by omega)]
theorem nm_T {B:List UInt8} (h:B.length=64) (k:Nat) (hk:k < 2):slotN B k=⟨beN (slotT B k) 0 4,beN (slotT B k) 4 4,beN (slotT B k) 8 4⟩:=by
 have hl:=slotL_len h k hk
 unfold slotN nmOf
 rw[slotT_split h k hk,beN_left _ _ _ (by omega),beN_left _ _ _ (by omega),beN_left _ _ _ (by omega)]
theorem ext_stB (T:List UInt8) (a b:Nat):(stB T).extract a b=stB ((T.drop a).take (b - a)):=by
 apply ByteArray.ext
 apply Array.ext'
 simp[stB,ByteArray.data_extract]
theorem held_T {B:List UInt8} (h:B.length=64) (k:Nat) (hk:k < 2):isHeld B k=((stB (img (slotN B k)++[165])).toList==(stB (slotT B k)).toList && decide (1<=(slotN B k).n) && (slotN B k).n % 2==k):=by
 have e:((stB (img (slotN B k)++[165])).toList==(stB (slotT B k)).toList)=(slotM B k==165 && slotL B k==img (slotN B k)):=by
  have e1:∀L:List UInt8,(stB L).toList=L:=fun L=>by rw[ByteArray.toList_eq];rfl
  rw[e1,e1,slotT_split h k hk,Bool.eq_iff_iff,beq_iff_eq,Bool.and_eq_true,beq_iff_eq,beq_iff_eq]
  constructor
  ·intro he
   have:=List.append_inj he (by rw[img_len,slotL_len h k hk])
   exact⟨by simpa using this.2.symm,this.1.symm⟩
  ·rintro⟨a,b⟩
   rw[a,<- b]
 rw[e]
 rfl
theorem next_T {B:List UInt8} (k:Nat) (hk:k < 2):newestK B (k+1)=if isHeld B k=true/\¬(slotN B k).n < (newestK B k).n then slotN B k else newestK B k:=by
 rw[newestK]
 by_cases hh:isHeld B k=true
 ·have hs:=held_spec hh
  have hne:(newestK B k).n≠(slotN B k).n:=by
   have h01:k=0\/k=1:=by omega
   rcases h01 with rfl | rfl
   ·show(0:Nat)≠_;omega
   ·have h0:=held_spec (B:=B) (k:=0)
    rw[newestK]
    split
    ·rename_i h;have:=h0 h.1;omega
    ·show(0:Nat)≠_;omega
  by_cases hl:(newestK B k).n < (slotN B k).n
  ·rw[if_pos ⟨hh,hl⟩,if_pos ⟨hh,by omega⟩]
  ·rw[if_neg (fun h=>hl h.2),if_neg (fun h=>hl (by have:=h.2;omega))]
 ·rw[if_neg (fun h=>hh h.1),if_neg (fun h=>hh h.1)]
end Go.Proofs.YtdpmeoflgpaljaaGreatDoor
