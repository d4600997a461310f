/-
  What the claimed theorem reaches, part Q37.
-/
import Derived.Test.YtabndgfdbdjdgaaGreatDoorQ35
import Derived.Test.YtabndgfdbdjdgaaGreatDoorQ27
import Derived.Test.YtabndgfdbdjdgaaGreatDoorQ36
import Derived.ChangeMaps5
import Derived.Test.YtabndgfdbdjdgaaGreatDoorQ00
namespace Go.Proofs.YtabndgfdbdjdgaaGreatDoor
open Go.ChangeShapes Go.WideShapes Go.ChangeAt Go.RowKit
set_option maxRecDepth 100000
set_option maxHeartbeats 8000000
theorem mapM_atS {α β:Type} {f:α->Option β}:∀{l:List α} {r:List β},l.mapM f=some r->∀(i:Nat) x,l[i]? = some x->f x=r[i]?
 | [],r,h,i,x,hx=>by simp at hx
 | a::l,r,h,i,x,hx=>by
  rw[List.mapM_cons]at h
  obtain⟨y,hy,h⟩:=Option.bind_eq_some_iff.1 h
  obtain⟨ys,hys,h⟩:=Option.bind_eq_some_iff.1 h
  obtain rfl:=Option.some.inj h
  cases i with
  | zero=>simp at hx;subst hx;simpa using hy
  | succ i=>simp at hx;simpa using mapM_atS hys i x hx
theorem open_ws {H:Type} {enc:TypeId×Value->H} {W:World} {b0:Nat} {v:Value} {d:DataW H} {p:List MemPlace} {sp:Nat->Bool}
  (hv:Value.okWide Tryz.prog W .any b0 22 v) (h:DataW.Trod enc Tryz.prog W 0 sp true 22 v d p):∃ws,WsI W v ws:=by
 obtain⟨a0,len0,cap0,rfl⟩:=okWide_slice Tryz.underlying22 hv
 obtain⟨fuel,hf⟩:=h
 rcases Go.Deep.open_slice Tryz.underlying22 hf with⟨h0,_⟩ | ⟨a,len,cap,m,n,D,Pl,hcs,_,hlc,hmx,hm,_,hx⟩
 ·have h0:[Value.slice a0 len0 cap0]=[.slice none 0 0]:=h0
  have h0:Value.slice a0 len0 cap0=.slice none 0 0:=by simpa using h0
  exact⟨[],none,0,h0,Nat.zero_le _,fun j x hx=>by simp at hx⟩
 ·have hcs:[Value.slice a0 len0 cap0]=[.slice (some a) len cap]:=hcs
  have hcs:Value.slice a0 len0 cap0=.slice (some a) len cap:=by simpa using hcs
  rw[hcs]
  have hlm:len<=m:=by rw[hm];split <;> omega
  obtain⟨R,hR⟩:=Go.Deep.choose_lt (α:=ByteArray) (n:=len) (p:=fun i r=>W.cell? (a.add i)=some (.string r)) (fun i hi=>by
   obtain⟨cs',h1,h2⟩:=hx i (by omega)
   rw[Tryz.cellsS]at h1
   obtain⟨y,e,_,_⟩:=DataW.trod_string Tryz.underlying9 h2
   refine⟨y,?_⟩
   unfold World.cells? at h1
   rw[if_pos (Nat.zero_le _)]at h1
   have h3:=mapM_atS h1 0 0 rfl
   rw[e]at h3
   rw[Nat.mul_one]at h3
   exact h3)
  refine⟨(List.range len).map R,some a,cap,by simp,by rw[List.length_map,List.length_range];exact hlc,fun i r hr=>?_⟩
  rw[List.getElem?_map]at hr
  obtain⟨i',hi',rfl⟩:=Option.map_eq_some_iff.1 hr
  obtain⟨hlt,e⟩:=List.getElem?_eq_some_iff.1 hi'
  simp at hlt e
  subst e
  have hsp:a.spot=none:=by
   have h0:=hR 0 (by omega)
   have e:a.add 0=a:=rfl
   rw[e]at h0
   unfold World.cell? at h0
   split at h0
   ·cases hs:a.spot with
    | none=>rfl
    | some q=>simp[hs]at h0
   ·cases h0
  obtain⟨b,o,sp'⟩:=a
  obtain rfl:sp'=none:=hsp
  have h1:=hR i hlt
  rw[addr_addT]at h1
  exact⟨b,o,rfl,h1⟩
theorem sents_conv {W:World} {s s':Nat->Addr} (S:SeS W s) (S':Sents W s'):Sents W s:=by
 have inj:∀{g:Addr} {t:TypeId} {a b:Addr},W.cell? g=some (.iface t (.pointer (some a)))->W.cell? g=some (.iface t (.pointer (some b)))->a=b:=fun h k=>by
  rw[h]at k
  simpa using k
 have e:∀i,i < 11->s' i=s i:=fun i hi=>by
  match i,hi with
  | 0,_=>exact inj S'.c0 S.c0
  | 1,_=>exact inj S'.c1 S.m.c1
  | 2,_=>exact inj S'.c2 S.m.c2
  | 3,_=>exact inj S'.c3 S.m.c3
  | 4,_=>exact inj S'.c4 S.m.c4
  | 5,_=>exact inj S'.c5 S.m.c5
  | 6,_=>exact inj S'.c6 S.m.c6
  | 7,_=>exact inj S'.c7 S.m.c7
  | 8,_=>exact inj S'.c8 S.m.c8
  | 9,_=>exact inj S'.c9 S.m.c9
  | 10,_=>exact inj S'.c10 S.m.c10
 exact⟨S'.et,S.c0,S.m.c1,S.m.c2,S.m.c3,S.m.c4,S.m.c5,S.m.c6,S.m.c7,S.m.c8,S.m.c9,S.m.c10,fun i hi=>by rw[<- e i hi];exact S'.row i hi,fun i j hi hj hij=>by rw[<- e i hi,<- e j hj];exact S'.ne i j hi hj hij⟩
end Go.Proofs.YtabndgfdbdjdgaaGreatDoor
