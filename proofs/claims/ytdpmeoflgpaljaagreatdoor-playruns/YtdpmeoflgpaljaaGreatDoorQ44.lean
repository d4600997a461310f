/-
  What the claimed theorem reaches, part Q44.
-/
import Derived.Test.YtdpmeoflgpaljaaGreatDoorQ04
import Derived.ProofKit
import Derived.OpenShut
import Derived.Deep.Slices
import Derived.ChangeMaps5
import Derived.Test.YtdpmeoflgpaljaaGreatDoorQ00
import Derived.Test.YtdpmeoflgpaljaaGreatDoorQ41
import Derived.Test.YtdpmeoflgpaljaaGreatDoorQ43
import Derived.Maps.AppendAt
import Derived.Laws.OwnMore
namespace Go.Proofs.YtdpmeoflgpaljaaGreatDoor
open Go.ChangeShapes Go.WideShapes Go.ChangeAt Go.RowKit
set_option maxRecDepth 100000
set_option maxHeartbeats 8000000
def IntsI (w:World) (v:Value) (xs:List Int):Prop:=∃(p:Option Addr) (cap:Nat),v=.slice p xs.length cap/\∀(i:Nat) x,xs[i]? = some x->∃b o,p=some ⟨b,o,none⟩/\w.cell? ⟨b,o+i,none⟩=some (.int .i64 x) /\ -9223372036854775808<=x/\x<=9223372036854775807
theorem Tryz.ciI : Tryz.prog.cellsOf 3=1:=by kernel_rfl
theorem addr_addI (b o j:Nat):Addr.add (b,o) j=(b,o+j):=by
 unfold Addr.add
 by_cases h:j=0
 ·subst h;rfl
 ·rw[if_neg h]
def IntsC (w:World) (v:Value) (xs:List Int):Prop:=∃(p:Option Addr) (cap:Nat),v=.slice p xs.length cap/\xs.length<=cap/\(p=none->cap=0)/\∀(i:Nat) x,xs[i]? = some x->∃b o,p=some ⟨b,o,none⟩/\w.cell? ⟨b,o+i,none⟩=some (.int .i64 x) /\ -9223372036854775808<=x/\x<=9223372036854775807
theorem open_intsC {H:Type} {enc:TypeId×Value->H} {W:World} {b0:Nat} {v:Value} {d:DataW H} {p:List MemPlace} {sp:Nat->Bool}
  (hv:Value.okWide Tryz.prog W .any b0 23 v) (h:DataW.Trod enc Tryz.prog W 0 sp true 23 v d p):∃l,IntsC W v l:=by
 obtain⟨a0,len0,cap0,rfl⟩:=okWide_slice Tryz.underlying23 hv
 obtain⟨fuel,hf⟩:=h
 rcases Go.Deep.open_slice Tryz.underlying23 hf with⟨h0,_⟩ | ⟨a,len,cap,m,n,D,Pl,hcs,_,hlc,hmx,hm,_,hx⟩
 ·have h0:[Value.slice a0 len0 cap0]=[.slice none 0 0]:=h0
  have h0:Value.slice a0 len0 cap0=.slice none 0 0:=by simpa using h0
  exact⟨[],none,0,h0,Nat.le_refl _,fun _=>rfl,fun j x hx=>by simp at hx⟩
 ·have hcs:[Value.slice a0 len0 cap0]=[.slice (some a) len cap]:=hcs
  have hcs:Value.slice a0 len0 cap0=.slice (some a) len cap:=by simpa using hcs
  rw[hcs]
  have hlm:len<=m:=by rw[hm];split <;> omega
  obtain⟨R,hR⟩:=Go.Deep.choose_lt (α:=Int) (n:=len) (p:=fun i x=>W.cell? (a.add i)=x /\ -9223372036854775808<=x/\x<=9223372036854775807) (fun i hi=>by
   obtain⟨cs',h1,h2⟩:=hx i (by omega)
   rw[Tryz.ciI]at h1
   obtain⟨y,e,_,k⟩:=DataW.trod_int Tryz.underlying3 h2
   subst e
   refine⟨y,?_,?_⟩
   ·unfold World.cells? at h1
    rw[if_pos (Nat.zero_le _)]at h1
    simp at h1
    obtain⟨z,hz,e⟩:=Option.bind_eq_some_iff.1 h1
    simp at e
    subst e
    exact hz
   ·simp only[Lit.wf,Bool.and_eq_true,decide_eq_true_eq]at k
    have e1:IntKind.i64.min = -9223372036854775808:=by decide
    have e2:IntKind.i64.max=9223372036854775807:=by decide
    omega)
  refine⟨(List.range len).map R,some a,cap,by simp,by simpa using hlc,fun e=>(by cases e),fun i r hr=>?_⟩
  rw[List.getElem?_map]at hr
  obtain⟨i',hi',rfl⟩:=Option.map_eq_some_iff.1 hr
  obtain⟨hlt,e⟩:=List.getElem?_eq_some_iff.1 hi'
  simp at hlt e
  subst e
  have hsp:a.spot=none:=by
   have h0:=(hR 0 (by omega)).1
   have e:a.add 0=a:=rfl
   rw[e]at h0
   unfold World.cell? at h0
   split at h0
   ·cases hs:a.spot with
    | none=>rfl
    | some q=>simp[hs]at h0
   ·cases h0
  obtain⟨b,o,sp'⟩:=a
  obtain rfl:sp'=none:=hsp
  have:=hR i hlt
  rw[addr_addI]at this
  exact⟨b,o,rfl,this⟩
theorem ans_rd {w:World} {Z:Nat} {L:List Int} {n:Nat} (h:w.heap[Z]? = some (.cells (ansA L n) 3 (0,0))):RdN w (some (Z,0)) L:=fun j x hx=>by
 refine⟨Z,0,rfl,?_⟩
 rw[cell_of_row w Z _ _ _ _ h,Nat.zero_add]
 have hj:j < L.length:=by
  rcases Nat.lt_or_ge j L.length with q | q
  ·exact q
  ·rw[List.getElem?_eq_none q]at hx;cases hx
 unfold ansA
 rw[List.getElem?_toArray,List.getElem?_append_left (by rw[List.length_map];exact hj),List.getElem?_map,hx]
 rfl
def intVp (x:Int):Value:=.int .i64 x
theorem app_ints (w:World) (base:Nat) (ty:TypeId) (v:Value) (n:Nat) (ys:List Int) (hown:w.ownsRow base 3 1 v n (ys.map intVp)) (p:Option Addr) (cap:Nat) (xs:List Int) (R:RdN w p xs) (hp:p=none->cap=0) (hn:n+xs.length<=3000) (hbase:base<=w.heap.size) :
  ∃v' w',(Builtin.append_ #[23,23] ty #[v,.slice p xs.length cap]).run Tryz.prog w=.ok v' w'/\w'.ownsRow base 3 1 v' (n+xs.length) ((ys++xs).map intVp)/\w.grownBy w' v.ownBlock/\(v'.ownBlock=v.ownBlock\/v'.ownBlock=some w):=by
 obtain⟨i0,hi,hz0,hz1,hz2⟩:=info_parts Tryz.infoPy
 cases p with
 | none =>
  obtain rfl:=hp rfl
  have hx:xs=[]:=by
   cases xs with
   | nil=>rfl
   | cons x xs=>obtain⟨_,_,e,_⟩:=R 0 x rfl;cases e
  subst hx
  refine⟨v,w,run_append_owned_none (P := Tryz.prog) w base 23 ty 3 i0 1 Tryz.underlying23 hi v n _ hown,by simpa using hown,⟨rfl,rfl,rfl,Nat.le_refl _,fun _ _ _=>rfl⟩,.inl rfl⟩
 | some a =>
  obtain⟨v',w',h1,h2,h3,_,h5⟩:=run_append_own_at (P := Tryz.prog) w base 23 ty 3 i0 (.int .i64 0) 1 8 Tryz.underlying23 hi hz0 hz1 hz2 rfl (by decide) v n (ys.map intVp) hown a xs.length cap (xs.map intVp) (by simp) (fun j u hu=>by
   rw[List.getElem?_map]at hu
   obtain⟨x,hx,rfl⟩:=Option.map_eq_some_iff.1 hu
   obtain⟨b,o,e,hc⟩:=R j x hx
   cases e
   rw[addr_addI]
   exact hc) (fun u hu=>by obtain⟨x,_,rfl⟩:=List.mem_map.1 hu;rfl) (by unfold maxLen;omega) (by omega) hbase
  exact⟨v',w',h1,by rw[List.map_append];exact h2,h3,h5⟩
theorem own_rd {w:World} {base n:Nat} {v:Value} {xs:List Int} (h:w.ownsRow base 3 1 v n (xs.map intVp)):∃p cap,v=.slice p xs.length cap/\xs.length<=cap/\(p=none->cap=0)/\RdN w p xs/\(∀a,p=some a->base<=a.block):=by
 have hlen:xs.length=n:=by have:=h.1;simpa using this
 subst hlen
 rcases h.2 with⟨h1,h2⟩ | ⟨g,cap,cur,h1,h2,h3,h4,h5,h6,h7⟩
 ·refine⟨none,0,by rw[h1,h2],by omega,fun _=>rfl,fun j x hx=>?_,fun _ e=>by cases e⟩
  rw[List.length_eq_zero_iff.1 h2]at hx
  simp at hx
 ·refine⟨some (g,0),cap,h1,h4,fun e=>(by cases e),fun j x hx=>⟨g,0,rfl,?_⟩,fun a e=>by cases e;exact h2⟩
  have h8:(xs.map intVp)[j]? = some (.int .i64 x):=by rw[List.getElem?_map,hx];rfl
  rw[<- h7,List.getElem?_take]at h8
  split at h8
  ·have h9:cur[j]? = some (.int .i64 x):=by simpa using h8
   rw[Nat.zero_add]
   simp[World.cell?,h3,h9]
  ·cases h8
end Go.Proofs.YtdpmeoflgpaljaaGreatDoor
