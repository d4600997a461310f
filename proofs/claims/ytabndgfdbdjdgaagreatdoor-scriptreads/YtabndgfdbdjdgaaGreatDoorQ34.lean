/-
  What the claimed theorem reaches, part Q34.
-/
import Derived.Test.YtabndgfdbdjdgaaGreatDoorQ33
import Derived.Test.YtabndgfdbdjdgaaGreatDoorQ00
import Derived.Maps.AppendAt
import Derived.Laws.OwnMore
import Derived.Test.YtabndgfdbdjdgaaGreatDoorQ30
namespace Go.Proofs.YtabndgfdbdjdgaaGreatDoor
open Go.RowKit
set_option maxRecDepth 100000
set_option maxHeartbeats 8000000
theorem wsI_lit5 (w:World) (a0 a1 a2 a3 a4:ByteArray):WsI (w.alloc (.cells #[.string a0,.string a1,.string a2,.string a3,.string a4] 9)) (.slice (some ⟨w.heap.size,0,none⟩) 5 5) [a0,a1,a2,a3,a4]:=by
 refine⟨_,5,rfl,by simp,fun j y hy=>⟨_,0,rfl,?_⟩⟩
 have h:(w.alloc (.cells #[.string a0,.string a1,.string a2,.string a3,.string a4] 9)).heap[w.heap.size]? = some (.cells #[.string a0,.string a1,.string a2,.string a3,.string a4] 9 (0,0)):=heap_alloc_new _ _
 rw[Nat.zero_add,cell_of_row _ _ _ _ _ _ h]
 match j,hy with
 | 0,hy=>cases hy;rfl
 | 1,hy=>cases hy;rfl
 | 2,hy=>cases hy;rfl
 | 3,hy=>cases hy;rfl
 | 4,hy=>cases hy;rfl
 | _+5,hy=>simp at hy
theorem wsI_ans {w:World} {Z:Nat} {L:List ByteArray} (h:AnsS w Z L L.length):WsI w (.slice (some ⟨Z,0,none⟩) L.length L.length) L :=
 ⟨_,_,rfl,Nat.le_refl _,fun j y hy=>⟨Z,0,rfl,by rw[Nat.zero_add];exact h.at hy⟩⟩
theorem hello_any {w:World} {s:Nat->Addr} (E:EnvL w s) (Nm:PNm w):Calls Tryz.prog 4 #[] w fun e w'=>e=.returned (.bool true)/\Below w.heap.size w w':=by
 have HB:Hid (Below w.heap.size w (w.alloc (.cells #[.string ⟨#[116,105,99,107,32,49,32,49,48]⟩,.string ⟨#[97,108,108]⟩,.string ⟨#[115,119,105,116,99,104]⟩,.string ⟨#[105,110,115,105,100,101,32,117,100,112,32,53,58,49,32,54,58,57]⟩,.string ⟨#[102,108,111,119,115,32,49]⟩] 9))):=aB _ _
 have HR:Hid (Calls Tryz.prog 5 #[.string ⟨#[97,108,108,111,119,32,111,117,116,32,97,110,121,32,49,45,57,10]⟩,.slice (some ⟨w.heap.size,0,none⟩) 5 5] (w.alloc (.cells #[.string ⟨#[116,105,99,107,32,49,32,49,48]⟩,.string ⟨#[97,108,108]⟩,.string ⟨#[115,119,105,116,99,104]⟩,.string ⟨#[105,110,115,105,100,101,32,117,100,112,32,53,58,49,32,54,58,57]⟩,.string ⟨#[102,108,111,119,115,32,49]⟩] 9)) fun e w'=>∃Z,e=.returned (.tuple #[.slice (some ⟨Z,0,none⟩) 5 5,.nilIface])/\AnsS w' Z [ha0,ha1,ha2,ha3,ha4] 5/\Below w.heap.size w w'):=by
  have h1:RdL s hTx [hRl]:=by rw[hTx_eq];exact rdL_text hRl_ok
  have h2:=run_sc (E.below HB.out) (Nm.below HB.out) hTx [hRl] h1 [hl0,hl1,hl2,hl3,hl4] _ (wsI_lit5 w hl0 hl1 hl2 hl3 hl4) (by simp) (by decide) hello_cost
  rw[hello_plain]at h2
  refine h2.mono ?_
  rintro e w' ⟨Z,rfl,ha,hb⟩
  exact⟨Z,rfl,ha,t2 HB.out hb⟩
 clear E Nm HB
 go_enter Tryz.func4,Tryz.ntmps4
 go_wp2_with fail
 refine HR.out.mono ?_
 rintro e w2 ⟨Z,rfl,ha,hb⟩
 have H2:Hid (AnsS w2 Z [ha0,ha1,ha2,ha3,ha4] 5/\Below w.heap.size w w2):=⟨ha,hb⟩
 have HS:Hid (Calls Tryz.prog 12 #[.slice (some ⟨Z,0,none⟩) 5 5,.slice (some ⟨w2.heap.size,0,none⟩) 5 5] (w2.alloc (.cells #[.string ⟨#[111,107]⟩,.string ⟨#[49]⟩,.string ⟨#[49,32,49]⟩,.string ⟨#[117,100,112,32,49,58,50,48,50,52,32,54,58,57]⟩,.string ⟨#[49]⟩] 9)) fun e w'=>e=.returned (.bool true)/\Below (w2.alloc (.cells #[.string ⟨#[111,107]⟩,.string ⟨#[49]⟩,.string ⟨#[49,32,49]⟩,.string ⟨#[117,100,112,32,49,58,50,48,50,52,32,54,58,57]⟩,.string ⟨#[49]⟩] 9)).heap.size (w2.alloc (.cells #[.string ⟨#[111,107]⟩,.string ⟨#[49]⟩,.string ⟨#[49,32,49]⟩,.string ⟨#[117,100,112,32,49,58,50,48,50,52,32,54,58,57]⟩,.string ⟨#[49]⟩] 9)) w') :=
  stexts_same _ _ 5 5 [ha0,ha1,ha2,ha3,ha4] _ ((wsI_ans (L:=[ha0,ha1,ha2,ha3,ha4]) ha).below (aB _ _)) (wsI_lit5 w2 ha0 ha1 ha2 ha3 ha4) (by simp)
 have HB2:Hid (Below w.heap.size w (w2.alloc (.cells #[.string ⟨#[111,107]⟩,.string ⟨#[49]⟩,.string ⟨#[49,32,49]⟩,.string ⟨#[117,100,112,32,49,58,50,48,50,52,32,54,58,57]⟩,.string ⟨#[49]⟩] 9))):=t2 hb (aB _ _)
 clear ha hb HR
 go_wp2_with fail
 refine HS.out.mono ?_
 rintro e w3 ⟨rfl,b3⟩
 have H3:Hid (Below w.heap.size w w3):=t2 HB2.out b3
 clear b3 HS
 go_wp2_with fail
 go_ret
 exact⟨rfl,H3.out⟩
theorem addr_addT (b o j:Nat):Addr.add ⟨b,o,none⟩ j=⟨b,o+j,none⟩:=by
 simp[Addr.add]
theorem own_ws {w:World} {base n:Nat} {v:Value} {xs:List ByteArray} (h:w.ownsRow base 9 1 v n (xs.map Value.string)):∃p cap,v=.slice p xs.length cap/\xs.length<=cap/\(p=none->cap=0)/\∀(j:Nat) x,xs[j]? = some x->∃b o,p=some ⟨b,o,none⟩/\w.cell? ⟨b,o+j,none⟩=some (.string x):=by
 have hlen:xs.length=n:=by have:=h.1;simpa using this
 subst hlen
 rcases h.2 with⟨h1,h2⟩ | ⟨g,cap,cur,h1,h2,h3,h4,h5,h6,h7⟩
 ·refine⟨none,0,by rw[h1,h2],by omega,fun _=>rfl,fun j x hx=>?_⟩
  rw[List.length_eq_zero_iff.1 h2]at hx
  simp at hx
 ·refine⟨some ⟨g,0,none⟩,cap,h1,h4,fun e=>(by cases e),fun j x hx=>⟨g,0,rfl,?_⟩⟩
  have h8:(xs.map Value.string)[j]? = some (.string x):=by rw[List.getElem?_map,hx];rfl
  rw[<- h7,List.getElem?_take]at h8
  split at h8
  ·have h9:cur[j]? = some (.string x):=by simpa using h8
   rw[Nat.zero_add]
   simp[World.cell?,h3,h9]
  ·cases h8
section
variable {k:Nat} {y:ByteArray}
def FitL (z:ByteArray):Prop:=z.size<=60/\(z.size<=10\/z.data.toList.take 4≠[116,105,99,107])
theorem hd_lit {hd:ByteArray} (hk:k < 18) (h:cmdK hd=none\/∃j,cmdK hd=some j/\j≠k):(hd.toList==(ky k).data.toList)=false:=beq_eq_false_iff_ne.2 (fun e=>by
 have e2:hd=ky k:=by
  rw[tolist_inj e]
 rw[e2,cmdK_ky hk]at h
 rcases h with h | ⟨j,h,hj⟩
 ·cases h
 ·cases h;exact hj rfl)
theorem ne0_list {a:ByteArray} (h:Ne0 a):(a.toList==[])=false:=beq_eq_false_iff_ne.2 (by rw[ByteArray.toList_eq];exact h)
theorem rest_ext (y:ByteArray) (_:(hdW y).size < y.size):y.extract ((hdW y).size+1) y.size=⟨(rsT y).toArray⟩:=by
 apply ByteArray.ext
 rw[ByteArray.data_extract]
 apply Array.ext'
 unfold rsT
 have:y.data.toList.length=y.size:=Array.length_toList
 rw[Array.toList_extract]
 simp[List.extract,List.take_of_length_le]
theorem rest_none (y:ByteArray) (h:¬(hdW y).size < y.size):(⟨#[]⟩:ByteArray)=⟨(rsT y).toArray⟩:=by
 apply ByteArray.ext
 apply Array.ext'
 unfold rsT
 have:y.data.toList.length=y.size:=Array.length_toList
 rw[List.drop_of_length_le (by omega)]
def tst (y:ByteArray) (k:Nat):Bool:=match y.data.toList[k]? with | some c=>c != 32 | none=>false
theorem tst_yes (h:tst y k=true):∃hk:k < y.size,y[k]≠32:=by
 have hl:y.data.toList.length=y.size:=Array.length_toList
 unfold tst at h
 split at h
 ·rename_i c hc
  obtain⟨hk,e⟩:=List.getElem?_eq_some_iff.1 hc
  refine⟨by omega,?_⟩
  have e2:y[k]'(by omega)=c:=e
  rw[e2]
  simpa using h
 ·cases h
theorem tst_no (h:tst y k=false):(y.data.toList.drop k).takeWhile (fun b=>b != 32)=[]:=by
 have hl:y.data.toList.length=y.size:=Array.length_toList
 unfold tst at h
 split at h
 ·rename_i c hc
  obtain⟨hk,e⟩:=List.getElem?_eq_some_iff.1 hc
  rw[List.drop_eq_getElem_cons hk,e,List.takeWhile_cons,h]
  rfl
 ·rename_i hc
  rw[List.drop_of_length_le (List.getElem?_eq_none_iff.1 hc)]
  rfl
theorem tst_at (hk:k < y.size):tst y k=(y[k] != 32):=by
 have hl:y.data.toList.length=y.size:=Array.length_toList
 have:y.data.toList[k]? = some y[k]:=by rw[List.getElem?_eq_getElem (by omega)];rfl
 unfold tst
 rw[this]
theorem tst_end (hk:¬k < y.size):tst y k=false:=by
 have hl:y.data.toList.length=y.size:=Array.length_toList
 unfold tst
 rw[List.getElem?_eq_none (by omega)]
theorem ext4_list (y:ByteArray):(y.extract 0 4).toList=y.data.toList.take 4:=by
 rw[ByteArray.toList_eq,ByteArray.data_extract]
 simp
theorem slice4 (y:ByteArray) (h:10 < y.size) (u:World):(Instr.slice 9 (.string y) none (some (.int .i64 4)) none).run Tryz.prog u=.ok (.string (y.extract 0 4)) u:=by
 have h1:(4:Int)<=(y.size:Int):=by omega
 simp[Instr.slice,run_underlying Tryz.underlying9,go_sem,h1]
structure OwL (w2 wr:World) (v:Value) (G:List ByteArray):Prop where
 own:wr.ownsRow w2 9 1 v G.length (G.map Value.string)
 bl:Below w2 w2 wr
 ft:∀z ∈ G,FitL z
theorem OwL.more {w2 w5 w6:World} {v v':Value} {G:List ByteArray} {o1:Obj} (h:OwL w2 w5 v G) (hy:FitL y)
  (o':w6.ownsRow w2 9 1 v' (G.length+1) (G.map Value.string++[.string y])) (hg:(w5.alloc o1).grownBy w6 v.ownBlock):OwL w2 w6 v' (G++[y]):=by
 refine⟨by simpa using o',(h.bl.alloc h.bl.size _).grown hg (by have:=h.bl.size;simp;omega) (fun j hj=>(h.own.lt _ hj).1),fun z hz=>?_⟩
 rcases List.mem_append.1 hz with hz | hz
 ·exact h.ft z hz
 ·simp at hz;subst hz;exact hy
end
end Go.Proofs.YtabndgfdbdjdgaaGreatDoor
