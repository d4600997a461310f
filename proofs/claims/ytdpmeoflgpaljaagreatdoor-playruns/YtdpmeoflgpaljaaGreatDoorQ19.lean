/-
  What the claimed theorem reaches, part Q19.
-/
import Derived.Test.YtdpmeoflgpaljaaGreatDoorQ10
import Derived.OwnWalk
import Derived.Laws.AppendOwnNone
import Derived.Test.YtdpmeoflgpaljaaGreatDoorQ00
namespace Go.Proofs.YtdpmeoflgpaljaaGreatDoor
open Go.RowKit
set_option maxRecDepth 100000
set_option maxHeartbeats 8000000
section
variable {w:World} {l:List Rl} {v:Value}
def rlC (r:Rl):List Value:=[.bool r.al,.bool r.ou,r.pr,r.lo,r.tp]
def cellsL (l:List Rl):List Value:=l.flatMap rlC
theorem cellsL_cons (r:Rl) (l:List Rl):cellsL (r::l)=.bool r.al::.bool r.ou::.int .i64 r.pr::.int .i64 r.lo::.int .i64 r.tp::cellsL l:=rfl
theorem cellsL_len:∀l:List Rl,(cellsL l).length=l.length * 5
 | []=>rfl
 | r::l=>by rw[cellsL_cons];simp only[List.length_cons,cellsL_len l];omega
theorem cellsL_get:∀(l:List Rl) (i k:Nat),k < 5->(cellsL l)[i * 5+k]? = (l[i]?).bind fun r=>(rlC r)[k]?
 | [],i,k,_=>by simp[cellsL]
 | r::l,0,k,h=>by
  rw[cellsL_cons]
  match k,h with
  | 0,_ | 1,_ | 2,_ | 3,_ | 4,_=>rfl
 | r::l,i+1,k,h=>by
  have e:(i+1) * 5+k=(i * 5+k)+1+1+1+1+1:=by omega
  rw[cellsL_cons,e,List.getElem?_cons_succ,List.getElem?_cons_succ,List.getElem?_cons_succ,List.getElem?_cons_succ,List.getElem?_cons_succ,List.getElem?_cons_succ]
  exact cellsL_get l i k h
theorem cellsL_one (l:List Rl) (u:Value) (h:u ∈ cellsL l):u.oneCell'=true:=by
 obtain⟨r,_,hr⟩:=List.mem_flatMap.1 h
 simp only[rlC,List.mem_cons,List.not_mem_nil,or_false]at hr
 rcases hr with rfl | rfl | rfl | rfl | rfl <;> rfl
theorem addr_add (b o j:Nat):Addr.add (b,o) j=(b,o+j):=by
 unfold Addr.add
 by_cases h:j=0
 ·subst h;rfl
 ·rw[if_neg h]
theorem Rul.at {ad:Addr} (R:Rul w (some ad) l) (j:Nat) (u:Value) (h:(cellsL l)[j]? = some u):w.cell? (ad.add j)=some u:=by
 have e:j=j / 5 * 5+j % 5:=by omega
 have hk:j % 5 < 5:=Nat.mod_lt _ (by omega)
 rw[e,cellsL_get l _ _ hk]at h
 obtain⟨r,hr,hu⟩:=Option.bind_eq_some_iff.1 h
 obtain⟨b,o,e1,h0,h1,h2,h3,h4⟩:=R _ _ hr
 obtain rfl:=Option.some.inj e1
 rw[addr_add]
 generalize hi:j / 5=i at *
 generalize hm:j % 5=k at *
 subst e
 match k,hk with
 | 0,_=>exact(show w.cell? (b,o+i * 5)=some u from h0.trans hu)
 | 1,_=>rw[<- Nat.add_assoc];exact h1.trans hu
 | 2,_=>rw[<- Nat.add_assoc];exact h2.trans hu
 | 3,_=>rw[<- Nat.add_assoc];exact h3.trans hu
 | 4,_=>rw[<- Nat.add_assoc];exact h4.trans hu
def Sl (w:World) (v:Value) (l:List Rl):Prop:=(v=.slice none 0 0/\l=[])\/∃a cap,v=.slice (some a) l.length cap/\l.length<=cap/\cap<=maxLen/\Rul w (some a) l
theorem Sl.open (h:Sl w v l):∃p cap,v=.slice p l.length cap/\Rul w p l:=by
 rcases h with⟨rfl,rfl⟩ | ⟨a,cap,h1,_,_,h2⟩
 ·exact⟨none,0,rfl,fun i r h=>by simp at h⟩
 ·exact⟨_,_,h1,h2⟩
theorem Sl.room {p:Option Addr} {n cap:Nat} (h:Sl w (.slice p n cap) l):l.length<=cap/\cap<=maxLen:=by
 rcases h with⟨h1,rfl⟩ | ⟨a,cap',h1,h2,h3,_⟩
 ·obtain⟨_,_,rfl⟩:=Value.slice.inj h1
  exact⟨Nat.le_refl _,Nat.zero_le _⟩
 ·obtain⟨_,_,rfl⟩:=Value.slice.inj h1
  exact⟨h2,h3⟩
theorem Sl.keep {w':World} (h:Sl w v l) (hk:∀a v,w.cell? a=some v->w'.cell? a=some v):Sl w' v l:=by
 rcases h with h | ⟨a,cap,h1,m1,m2,h2⟩
 ·exact .inl h
 ·exact .inr ⟨a,cap,h1,m1,m2,h2.keep hk⟩
theorem Sl.below {w':World} (h:Sl w v l) (hb:Below w w w'):Sl w' v l:=h.keep fun _ _ hc=>Below.keeps hb hc
theorem Sl.of_own {base:Nat} {n:Nat} (h:w.ownsRow base 53 5 v n (cellsL l)):Sl w v l/\n=l.length:=by
 obtain⟨hlen,h⟩:=h
 rw[cellsL_len]at hlen
 have hn:n=l.length:=by omega
 subst hn
 refine⟨?_,rfl⟩
 rcases h with⟨h1,h2⟩ | ⟨g,cap,cur,h1,h2,h3,h4,h5,h6,h7⟩
 ·exact .inl ⟨h1,List.length_eq_zero_iff.1 h2⟩
 ·refine .inr ⟨_,cap,h1,h4,h5,fun i r hr=>⟨g,0,rfl,?_⟩⟩
  have key:∀k u,k < 5->(rlC r)[k]? = some u->w.cell? ⟨g,0+i * 5+k,none⟩=some u:=fun k u hk hu=>by
   have h8:(cellsL l)[i * 5+k]? = some u:=by rw[cellsL_get l i k hk,hr];exact hu
   rw[<- h7,List.getElem?_take]at h8
   split at h8
   ·have h9:cur[i * 5+k]? = some u:=by simpa using h8
    simp[World.cell?,h3,h9]
   ·cases h8
  exact⟨key 0 _ (by omega) rfl,key 1 _ (by omega) rfl,key 2 _ (by omega) rfl,key 3 _ (by omega) rfl,key 4 _ (by omega) rfl⟩
theorem Tryz.infoRl:(Tryz.prog.info? 53).map (fun i=>(i.zero,i.size,i.bytes))=some (some (.agg #[.bool false,.bool false,.int .i64 0,.int .i64 0,.int .i64 0]),5,32):=by kernel_rfl
end
end Go.Proofs.YtdpmeoflgpaljaaGreatDoor
