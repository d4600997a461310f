/-
  What the claimed theorem reaches, part Q20.
-/
import Derived.Test.YtdpmeoflgpaljaaGreatDoorQ10
import Derived.Test.YtdpmeoflgpaljaaGreatDoorQ19
import Derived.ProofKit
import Derived.OpenShut
import Derived.Lib.SmallJoins
import Derived.Deep.Slices
import Derived.Test.YtdpmeoflgpaljaaGreatDoorQ00
namespace Go.Proofs.YtdpmeoflgpaljaaGreatDoor
open Go.ChangeShapes Go.WideShapes Go.ChangeAt Go.RowKit
set_option maxRecDepth 100000
set_option maxHeartbeats 8000000
theorem Tryz.cellsI : Tryz.prog.cellsOf 3=1:=by kernel_rfl
theorem Tryz.cellsRl : Tryz.prog.cellsOf 53=5:=by kernel_rfl
theorem Tryz.cellsB : Tryz.prog.cellsOf 4=1:=by kernel_rfl
theorem rl_cells {H:Type} {enc:TypeId×Value->H} {W:World} {b0:Nat} {sp:Nat->Bool} {held:Bool} {fuel:Nat} {cs:List Value} {x:DataW H×List MemPlace}
  (h:DataW.trod enc Tryz.prog W b0 sp held fuel 53 cs=some x):∃r:Rl,cs=rlC r:=by
 obtain⟨xs,n,_,_,hlen,hxl,hf⟩:=DataW.trod_struct Tryz.underlying53 h
 rw[Tryz.cellsRl]at hlen
 have hxl:xs.length=5:=hxl
 match cs,hlen with
 | [c0,c1,c2,c3,c4],_ =>
  have g0:DataW.trod enc Tryz.prog W b0 sp held n 4 (([c0,c1,c2,c3,c4].drop 0).take (Tryz.prog.cellsOf 4))=xs[0]? := hf 0 _ rfl
  have g1:DataW.trod enc Tryz.prog W b0 sp held n 4 (([c0,c1,c2,c3,c4].drop 1).take (Tryz.prog.cellsOf 4))=xs[1]? := hf 1 _ rfl
  have g2:DataW.trod enc Tryz.prog W b0 sp held n 3 (([c0,c1,c2,c3,c4].drop 2).take (Tryz.prog.cellsOf 3))=xs[2]? := hf 2 _ rfl
  have g3:DataW.trod enc Tryz.prog W b0 sp held n 3 (([c0,c1,c2,c3,c4].drop 3).take (Tryz.prog.cellsOf 3))=xs[3]? := hf 3 _ rfl
  have g4:DataW.trod enc Tryz.prog W b0 sp held n 3 (([c0,c1,c2,c3,c4].drop 4).take (Tryz.prog.cellsOf 3))=xs[4]? := hf 4 _ rfl
  rw[Tryz.cellsB]at g0 g1
  rw[Tryz.cellsI]at g2 g3 g4
  rw[List.getElem?_eq_getElem (by omega)]at g0 g1 g2 g3 g4
  obtain⟨y0,e0,_⟩:=DataW.trod_bool Tryz.underlying4 g0
  obtain⟨y1,e1,_⟩:=DataW.trod_bool Tryz.underlying4 g1
  obtain⟨y2,e2,_⟩:=DataW.trod_int Tryz.underlying3 g2
  obtain⟨y3,e3,_⟩:=DataW.trod_int Tryz.underlying3 g3
  obtain⟨y4,e4,_⟩:=DataW.trod_int Tryz.underlying3 g4
  simp at e0 e1 e2 e3 e4
  subst e0 e1 e2 e3 e4
  exact⟨⟨y0,y1,y2,y3,y4⟩,rfl⟩
theorem mapM_at {α β:Type} {f:α->Option β}:∀{l:List α} {r:List β},l.mapM f=some r->∀(i:Nat) x,l[i]? = some x->f x=r[i]?
 | [],r,h,i,x,hx=>by simp at hx
 | a::l,r,h,i,x,hx=>by
  rw[List.mapM_cons]at h
  obtain⟨y,hy,h⟩:=Option.bind_eq_some_iff.1 h
  obtain⟨ys,hys,h⟩:=Option.bind_eq_some_iff.1 h
  obtain rfl:=Option.some.inj h
  cases i with
  | zero=>simp at hx;subst hx;simpa using hy
  | succ i=>simp at hx;simpa using mapM_at hys i x hx
theorem open_rules {H:Type} {enc:TypeId×Value->H} {W:World} {b0:Nat} {v:Value} {d:DataW H} {p:List MemPlace} {sp:Nat->Bool}
  (hv:Value.okWide Tryz.prog W .any b0 22 v) (h:DataW.Trod enc Tryz.prog W 0 sp true 22 v d p):∃l,Sl W v l:=by
 obtain⟨a0,len0,cap0,rfl⟩:=okWide_slice Tryz.underlying22 hv
 obtain⟨fuel,hf⟩:=h
 rcases Go.Deep.open_slice Tryz.underlying22 hf with⟨h0,_⟩ | ⟨a,len,cap,m,n,D,Pl,hcs,_,hlc,hmx,hm,_,hx⟩
 ·have h0:[Value.slice a0 len0 cap0]=[.slice none 0 0]:=h0
  exact⟨[],.inl ⟨by simpa using h0,rfl⟩⟩
 ·have hcs:[Value.slice a0 len0 cap0]=[.slice (some a) len cap]:=hcs
  have hcs:Value.slice a0 len0 cap0=.slice (some a) len cap:=by simpa using hcs
  rw[hcs]
  have hlm:len<=m:=by rw[hm];split <;> omega
  obtain⟨R,hR⟩:=Go.Deep.choose_lt (α:=Rl) (n:=len) (p:=fun i r=>W.cells? 0 (a.add (i * 5)) 5=some (rlC r)) (fun i hi=>by
   obtain⟨cs',h1,h2⟩:=hx i (by omega)
   rw[Tryz.cellsRl]at h1
   obtain⟨r,rfl⟩:=rl_cells h2
   exact⟨r,h1⟩)
  refine⟨(List.range len).map R,.inr ⟨a,cap,by simp,by simpa using hlc,hmx,fun i r hr=>?_⟩⟩
  rw[List.getElem?_map]at hr
  obtain⟨i',hi',rfl⟩:=Option.map_eq_some_iff.1 hr
  obtain⟨hlt,e⟩:=List.getElem?_eq_some_iff.1 hi'
  simp at hlt e
  subst e
  have key:∀j k u,j < len->k < 5->(rlC (R j))[k]? = some u->W.cell? ((a.add (j * 5)).add k)=some u:=fun j k u hj hk hu=>by
   have h1:=hR j hj
   unfold World.cells? at h1
   rw[if_pos (Nat.zero_le _)]at h1
   have:=mapM_at h1 k k (by rw[List.getElem?_range hk])
   rw[this];exact hu
  have hsp:a.spot=none:=by
   have h0:=key 0 0 _ (by omega) (by omega) rfl
   have e:(a.add (0 * 5)).add 0=a:=rfl
   rw[e]at h0
   unfold World.cell? at h0
   split at h0
   ·cases hs:a.spot with
    | none=>rfl
    | some q=>simp[hs]at h0
   ·cases h0
  obtain⟨b,o,sp'⟩:=a
  obtain rfl:sp'=none:=hsp
  refine⟨b,o,rfl,?_⟩
  have k2:∀k u,k < 5->(rlC (R i))[k]? = some u->W.cell? ⟨b,o+i * 5+k,none⟩=some u:=fun k u hk hu=>by
   have:=key i k u hlt hk hu
   rw[addr_add,addr_add]at this
   exact this
  exact⟨k2 0 _ (by omega) rfl,k2 1 _ (by omega) rfl,k2 2 _ (by omega) rfl,k2 3 _ (by omega) rfl,k2 4 _ (by omega) rfl⟩
end Go.Proofs.YtdpmeoflgpaljaaGreatDoor
