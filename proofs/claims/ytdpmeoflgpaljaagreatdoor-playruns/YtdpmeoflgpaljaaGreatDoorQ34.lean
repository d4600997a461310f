/-
  What the claimed theorem reaches, part Q34.
-/
import Derived.Test.YtdpmeoflgpaljaaGreatDoorQ32
import Derived.Test.YtdpmeoflgpaljaaGreatDoorQ23
import Derived.Test.YtdpmeoflgpaljaaGreatDoorQ33
import Derived.Deep.DeepCutAuto
import Derived.Deep.CutRange
import Derived.Deep.RegionWith
import Derived.Test.YtdpmeoflgpaljaaGreatDoorQ00
namespace Go.Proofs.YtdpmeoflgpaljaaGreatDoor
open Go.RowKit
set_option maxRecDepth 100000
set_option maxHeartbeats 8000000
section
variable {w:World} {fr:Bool} {n base:Nat}
theorem FlZ.un7 {Q:Nat} {c:Ce} (h:FlZ w Q c) (u:Int):FlZ (w.setCell (Q,7) u) Q {c with un:=u}:=by
  unfold FlZ
  rw[heap_setCell_same w Q _ _ _ _ h]
  rfl
theorem tk_fr {x:No} (h0:x.tkE=0) (h:fr=(x.ro.rings && decide (x.ticked.ro.nxE=0))):fr=(x.tk1.ro.ac && !x.ro.ac):=by
  cases hr:x.ro.rings
  · have e:x.tk1=x.ticked:=by unfold No.tk1;rw[hr];rfl
    have e2:x.ticked.ro.ac=x.ro.ac:=by show x.ro.tick.ac=_;unfold Ro.tick;cases hq:x.ro.ac <;> simp[hq]
    rw[h,hr,e,e2]
    cases x.ro.ac <;> rfl
  · have ha:x.ticked.ro.ac=false/\x.ro.ac=false:=rings_ac hr
    by_cases hn:x.ticked.ro.nxE=0
    · have hc:x.ticked.cp.1=0:=by
        unfold No.tkE at h0
        rw[hr]at h0
        simp only[if_true]at h0
        unfold No.clE at h0
        rw[if_pos hn]at h0
        exact h0
      have e:x.tk1.ro=x.ticked.ro.claim x.ticked.ro.nxV:=by
        unfold No.tk1 No.clm
        rw[hr]
        simp only[if_true]
        rw[if_pos hn,if_pos hc]
      have e3:(x.ticked.ro.claim x.ticked.ro.nxV).ac=true:=by
        unfold Ro.claim
        rw[if_pos (Ro.clE_ok (r:=x.ticked.ro) ha.1 hn)]
      rw[h,hr,e,e3,ha.2,decide_eq_true hn]
      rfl
    · have e:x.tk1=x.ticked:=by
        unfold No.tk1 No.clm
        rw[hr]
        simp only[if_true]
        rw[if_neg hn]
      rw[h,hr,e,ha.1,decide_eq_false hn]
      rfl
theorem tk1_now (x:No):x.tk1.now=x.now+1:=by
  unfold No.tk1
  split
  · unfold No.clm
    repeat' split
    all_goals rfl
  · rfl
theorem tk_fresh {x:No} (h0:x.tkE=0) (h:fr=(x.ro.rings && decide (x.ticked.ro.nxE=0))) (ha:x.tk1.ro.ac=false):fr=false:=by
  rw[tk_fr h0 h,ha];rfl
def No.nfs (x:No):List Nf:=x.tickL.map fun t=>⟨x.tk1.id,x.tk1.life,x.tk1.ro.ep,t.cl,t.L.map fun (j:Nat)=>(⟨(j:Int),x.tk1.T j⟩:Tc)⟩
def NtsR (w:World) (x:No) (v:Value):Prop:=∃p cap us,v=.slice p x.nfs.length cap/\RdT w p x.nfs us/\RdC w x.nfs us
def NtsF (w:World) (n:Nat) (x:No) (v:Value):Prop:=∃p cap us,v=.slice p x.nfs.length cap/\RdT w p x.nfs us/\RdC w x.nfs us/\us.length=x.nfs.length/\FrP n p/\∀u ∈ us,∀q a c,u=Value.slice q a c->FrP n q
theorem NtsF.r {x:No} {v:Value} (h:NtsF w n x v):NtsR w x v:=by
  obtain⟨p,cap,us,h1,h2,h3,_⟩:=h
  exact⟨p,cap,us,h1,h2,h3⟩
theorem NtsF.nil {x:No} (h:x.nfs=[]):NtsF w n x (.slice none 0 0):=by
  refine⟨none,0,([]:List Value),by rw[h];rfl,by rw[h];exact fun j t h=>by simp at h,by rw[h];exact fun j t h=>by simp at h,by rw[h];rfl,?_,?_⟩
  · intro b hb
    cases hb
  · intro u hu
    cases hu
theorem own_frp {m s cap:Nat} {e:TypeId} {p:Option Addr} {cs:List Value} (ho:w.ownsRow base e s (.slice p m cap) m cs) (hn:n<=base):FrP n p:=fun b hb=>Nat.le_trans hn (ho.lt b.block (by rw[hb];rfl)).1
theorem app_note {u u':World} {v:Value} {cs:List Value} (t:Nf) (q:Option Addr) (a c:Nat) (hb:Below base u u') (ho:u'.ownsRow base 149 5 v n cs) (hn:n<=100) (hB:base<=u'.heap.size) :
    ∃v5 w5,(Builtin.append_ #[68,68] 68 #[v,.slice (some (u'.heap.size,0)) 1 1]).run Tryz.prog (u'.alloc (.cells #[t.fr,t.li,t.ep,.bool t.cl,.slice q a c] 149))=.ok v5 w5/\w5.ownsRow base 149 5 v5 (n+1) (cs++nfC t (.slice q a c))/\Below base u w5/\(∀b,b < u'.heap.size->v.ownBlock≠some b->w5.heap[b]? = u'.heap[b]?):=by
  obtain⟨q0,hi,hz0,hz1,hz2⟩:=info_parts Tryz.infoRn
  have k:=aB u' (.cells #[t.fr,t.li,t.ep,.bool t.cl,.slice q a c] 149)
  have ho2:(u'.alloc (.cells #[t.fr,t.li,t.ep,.bool t.cl,.slice q a c] 149)).ownsRow base 149 5 v n cs:=owns_chgL ho (ChgL.of (l:=[]) k) (by simp)
  have hsz:=Nat.le_trans hB k.size
  have n1:∀x ∈ nfC t (.slice q a c),x.oneCell'=true:=fun x hx=>by
    simp only[nfC,List.mem_cons,List.not_mem_nil,or_false]at hx
    rcases hx with rfl | rfl | rfl | rfl | rfl <;> rfl
  obtain⟨v5,w5,hr,hO5,hg5,_,_⟩:=run_append_own_at (P := Tryz.prog) (u'.alloc (.cells #[t.fr,t.li,t.ep,.bool t.cl,.slice q a c] 149)) base 68 68 149 q0 _ 5 56 Tryz.underlying68 hi hz0 hz1 hz2 rfl (by decide) v n cs ho2 ⟨u'.heap.size,0,none⟩ 1 1 (nfC t (.slice q a c)) rfl (five_ats u' t _) n1 (by unfold maxLen;omega) (by omega) hsz
  refine⟨v5,w5,hr,hO5,(hb.trans (k.mono hB)).grown hg5 hsz (fun q hq=>(ho.lt _ hq).1),fun b hb hne=>?_⟩
  exact(hg5.block b (Nat.lt_of_lt_of_le hb k.size) (fun e=>hne e.symm)).trans (k.block b hb)
theorem RowL.tcR {p:Option Addr} {T:Tb} {L:List Nat} (h:RowL w p T L):TcR w p (L.map fun (j:Nat)=>(⟨(j:Int),T j⟩:Tc)):=fun i x hx=>by
  rw[List.getElem?_map]at hx
  obtain⟨s,hs,rfl⟩:=Option.map_eq_some_iff.1 hx
  obtain⟨g,e,hc⟩:=h i s hs
  have key:∀k,k < 10->w.cell? ⟨g,0+i * 10+k,none⟩=some (.int .i64 ((T s).get s k)):=fun k hk=>by rw[Nat.zero_add];exact hc k hk
  exact⟨g,0,e,⟨key 0 (by omega),key 1 (by omega),key 2 (by omega),key 3 (by omega),key 4 (by omega),key 5 (by omega),key 6 (by omega),key 7 (by omega),key 8 (by omega),key 9 (by omega)⟩⟩
theorem nfs_ac {x:No} {du:Bool} (h0:x.tkE=0) (ha:x.tk1.ro.ac=true) (hf:fr=(x.ro.rings && decide (x.ticked.ro.nxE=0))) (hd:x.tk1.due=du) :
    x.nfs=(if fr || du then [(⟨x.tk1.id,x.tk1.life,x.tk1.ro.ep,true,[]⟩:Nf)] else [])++(if du then [(⟨x.tk1.id,x.tk1.life,x.tk1.ro.ep,false,(nxL x.tk1.T x.tk1.D x.tk1.cu).map fun (j:Nat)=>(⟨(j:Int),x.tk1.T j⟩:Tc)⟩:Nf)] else []):=by
  have e:fr=!x.ro.ac:=by rw[tk_fr h0 hf,ha];rfl
  unfold No.nfs No.tickL No.notes
  rw[if_pos h0,ha,hd,<- e]
  simp only[if_true]
  cases fr <;> cases du <;> rfl
theorem NtsF.one {x:No} (hn:n<=base) {v:Value} {t:Nf} (h:x.nfs=[t]) (hc:t.cs=[]) (ho:w.ownsRow base 149 5 v 1 (nfC t (.slice none 0 0))):NtsF w n x v:=by
  have key:=own_nts (w:=w) (B:=base) (e := 149) (v:=v) (l:=x.nfs) (us:=[.slice none 0 0]) (by rw[h];simpa [nfR] using ho) (fun r hr=>by
    rw[h]at hr
    simp only[nfR,List.zipWith_cons_cons,List.zipWith_nil_right,List.mem_singleton]at hr
    subst hr
    exact⟨rfl,fun u hu=>by simp only[nfC,List.mem_cons,List.not_mem_nil,or_false]at hu;rcases hu with rfl | rfl | rfl | rfl | rfl <;> rfl⟩) (fun j t' ht=>by
    rw[h]at ht
    match j,ht with
    | 0,ht =>
      obtain rfl:t=t':=by simpa using ht
      exact⟨none,0,by rw[hc];rfl⟩)
  obtain⟨p,cap,rfl,hr⟩:=key
  refine⟨p,cap,[.slice none 0 0],rfl,hr,fun j t' ht=>?_,by rw[h];rfl,own_frp (m:=1) (by rw[h]at ho;exact ho) hn,fun u hu q a c e b hb=>?_⟩
  rotate_left
  · rw[List.mem_singleton.1 hu]at e
    cases e
    cases hb
  rw[h]at ht
  match j,ht with
  | 0,ht =>
    obtain rfl:t=t':=by simpa using ht
    exact⟨none,0,by rw[hc];rfl,by rw[hc];exact fun i y hy=>by simp at hy,by rw[hc];exact Nat.zero_le _⟩
theorem NtsF.two {x:No} (hn:n<=base) {v:Value} {t t2:Nf} {p:Option Addr} {cp:Nat} (hq:FrP n p) (h:x.nfs=[t,t2]) (hc:t.cs=[]) (h8:t2.cs.length=8) (hR:TcR w p t2.cs) (ho:w.ownsRow base 149 5 v 2 (nfC t (.slice none 0 0)++nfC t2 (.slice p 8 cp))):NtsF w n x v:=by
  have key:=own_nts (w:=w) (B:=base) (e := 149) (v:=v) (l:=x.nfs) (us:=[.slice none 0 0,.slice p 8 cp]) (by rw[h];simpa [nfR] using ho) (fun r hr=>by
    rw[h]at hr
    simp only[nfR,List.zipWith_cons_cons,List.zipWith_nil_right,List.mem_cons,List.not_mem_nil,or_false]at hr
    rcases hr with rfl | rfl
    · exact⟨rfl,fun u hu=>by simp only[nfC,List.mem_cons,List.not_mem_nil,or_false]at hu;rcases hu with rfl | rfl | rfl | rfl | rfl <;> rfl⟩
    · exact⟨rfl,fun u hu=>by simp only[nfC,List.mem_cons,List.not_mem_nil,or_false]at hu;rcases hu with rfl | rfl | rfl | rfl | rfl <;> rfl⟩) (fun j t' ht=>by
    rw[h]at ht
    match j,ht with
    | 0,ht =>
      obtain rfl:t=t':=by simpa using ht
      exact⟨none,0,by rw[hc];rfl⟩
    | 1,ht =>
      obtain rfl:t2=t':=by simpa using ht
      exact⟨p,cp,by rw[h8];rfl⟩)
  obtain⟨p',cap,rfl,hr⟩:=key
  refine⟨p',cap,[.slice none 0 0,.slice p 8 cp],rfl,hr,fun j t' ht=>?_,by rw[h];rfl,own_frp (m:=2) (by rw[h]at ho;exact ho) hn,fun u hu q a c e b hb=>?_⟩
  rotate_left
  · simp only[List.mem_cons,List.not_mem_nil,or_false]at hu
    rcases hu with rfl | rfl
    · cases e;cases hb
    · cases e;exact hq b hb
  rw[h]at ht
  match j,ht with
  | 0,ht =>
    obtain rfl:t=t':=by simpa using ht
    exact⟨none,0,by rw[hc];rfl,by rw[hc];exact fun i y hy=>by simp at hy,by rw[hc];exact Nat.zero_le _⟩
  | 1,ht =>
    obtain rfl:t2=t':=by simpa using ht
    exact⟨p,cp,by rw[h8];rfl,hR,by omega⟩
section
variable {w0 w w':World} {r:RBk} {x:No} {q:Ro} {lo i:Int} {m:Nat}
theorem RNd.onNow (h:RNd w0 w r x q lo i m) (v:Int):RNd w0 (w.setCell (r.nd,1) v) r {x with now:=v} q lo i m/\ChgL r.all w (w.setCell (r.nd,1) v):=by
  have c:Chg r.nd w (w.setCell (r.nd,1) v):=Chg.set _ _ _ _
  have cl:ChgL [r.nd] w (w.setCell (r.nd,1) v):=ChgL.one c (by simp)
  have h0:∀b ∈ [r.nd],w0.heap.size<=b:=fun b hb=>by rw[List.mem_singleton.1 hb];exact h.g0 _ r.m_nd
  have e:∀(j:Nat) (b:Nat),r.all[j]? = some b->j≠0->(w.setCell (r.nd,1) v).heap[b]? = w.heap[b]? := fun j b hb hj=>c.block b (h.blk b (List.mem_of_getElem? hb)) (RBk.df h.ds j 0 hb rfl hj)
  obtain⟨lv,hy,hy1,hy2,hy3⟩:=h.yb
  have oth:∀j,j≠1->(w.setCell (r.nd,1) v).cell? ⟨r.nd,j,none⟩=w.cell? ⟨r.nd,j,none⟩:=fun j hj=>World.cell?_setCell_other _ _ _ _ (by simp <;> omega)
  refine⟨⟨⟨(oth 0 (by omega)).trans h.nd.b0,World.cell?_setCell_same' w _ _ (by rw[h.nd.b1];rfl),(oth 2 (by omega)).trans h.nd.b2,(oth 3 (by omega)).trans h.nd.b3,(oth 4 (by omega)).trans h.nd.b4,(oth 5 (by omega)).trans h.nd.b5,(oth 6 (by omega)).trans h.nd.b6,(oth 7 (by omega)).trans h.nd.b7,fun j hj=>(World.frozen?_setCell _ _ _ _).trans (h.nd.fr j hj)⟩,?_,h.sm,⟨lv,?_,hy1,hy2,hy3⟩,?_,h.lf,h.len,h.tb.keptB (e 4 _ rfl (by omega)) (e 5 _ rfl (by omega)),h.vs,h.te.keptB (e 6 _ rfl (by omega)) (e 7 _ rfl (by omega)),h.cu,h.mi.keptB (e 8 _ rfl (by omega)) (e 9 _ rfl (by omega)),h.ru' cl h0,h.rl,h.rb,h.ds,h.g0,h.id,h.bl' cl h0⟩,ChgL.one c r.m_nd⟩
  · unfold RRol;rw[e 3 _ rfl (by omega)];exact h.ro
  · unfold RBy;rw[e 2 _ rfl (by omega)];exact hy
  · unfold RCe;rw[e 1 _ rfl (by omega)];exact h.ce
theorem RNd.more (h:RNd w0 w r x q lo i m) {n:Nat} (hn:m<=n):RNd w0 w r x q lo i n:={h with vs:=h.vs.more hn}
theorem RNd.lifeC (h:RNd w0 w r x q lo i m):w.cell? (r.ce,3)=x.life:=by
  rw[h.lf]
  exact(cell_of_row w r.ce 3 _ _ _ h.ce).trans rfl
end
theorem rtick_rn {w0:World} {r:RBk} {x:No} {q:Ro} {lo i:Int} {m:Nat} (h:RNd w0 w r x q lo i m) (h0:0<=x.now) (h1:x.now<=999999999) (hm:m<=90000000) (hi:i<=1000000) (hlo : -900000000<=lo) :
    Calls Tryz.prog 84 #[.pointer (some (r.nd,0))] w fun e w'=>(∃v,e=.returned (.tuple #[v,.int .i64 (x.tkE:Nat)])/\NtsF w' w x v)/\(∃q' lo',lo - 20<=lo'/\RNd w0 w' r x.tick q' lo' (i+1) (m+33))/\ChgL r.all w w':=by
  have HN:Hid (RNd w0 w r x q lo i m):=h
  have HW:Hid (0<=x.now/\x.now<=999999999/\m<=90000000/\i<=1000000 /\ -900000000<=lo):=⟨h0,h1,hm,hi,hlo⟩
  have b1:=h.nd.b1
  have f1:=h.nd.fr 1 (by omega)
  have k0:=h.blk _ r.m_nd
  have hlt:¬(1099511627776:Int)<=x.now:=by omega
  have hw:IntKind.i64.wrap (x.now+1)=x.now+1:=by rw[IntKind.wrap_i64];omega
  clear h h0 h1 hm hi hlo
  go_enter Tryz.func84,Tryz.ntmps84
  go_wp2_with fail
  have N1:Hid (RNd w0 (w.setCell (r.nd,1) (.int .i64 (x.now+1))) r {x with now:=x.now+1} q lo i m):=(HN.onNow _).1
  have K1:Hid (ChgL r.all w (w.setCell (r.nd,1) (.int .i64 (x.now+1)))):=(HN.onNow _).2
  clear b1 f1 hlt hw k0
  generalize w.setCell (r.nd,1) (.int .i64 (x.now+1))=w1 at *
  have hS:w1.drew.cell? (r.nd,4)=some (.pointer (some (r.tb,0)))/\w1.drew.cell? (r.nd,1)=some (.int .i64 (x.now+1)):=⟨N1.nd.b4,N1.nd.b1⟩
  have D1:Hid (RNd w0 w1.drew r {x with now:=x.now+1} q lo i m):=N1.below (Below.refl _ _).drew
  go_region_held3 (fun w'=>w'.cell? (r.nd,4)=some (.pointer (some (r.tb,0)))/\w'.cell? (r.nd,1)=some (.int .i64 (x.now+1)))
    (first | assumption | exact⟨N2.nd.b4,N2.nd.b1⟩)
    (first | (go_at_call 124;refine(rexpire_rn D1 (by have:=HW.out;omega) (x.now+1)).mono ?_;rintro e w2 ⟨⟨v2,rfl⟩,n2,k2⟩;have N2:Hid (RNd w0 w2 r {x with now:=x.now+1,T:=expT x.T (x.now+1) 32} q lo i (m+1)):=n2;have K2:Hid (ChgL r.all w w2):=(K1.trans (ChgL.of (Below.refl _ _).drew)).trans k2;clear n2 k2))
  clear hS D1
  have b3:=N2.nd.b3
  go_wp2_with fail
  refine(rrtick_rn N2 HW.2.2.2.1).mono ?_
  rintro e w3 ⟨rfl,n3,k3⟩
  have N3:Hid (RNd w0 w3 r x.ticked q.rtick lo (i+1) (m+1)):=n3
  have K3:Hid (ChgL r.all w w3):=K2.trans k3
  clear n3 k3 N1 K1 N2 K2 b3
  obtain⟨rg,hr⟩:∃rg,x.ro.rings=rg:=⟨_,rfl⟩
  have HRG:Hid (x.ro.rings=rg):=hr
  simp only[hr]
  clear hr
  go_upto_if 40 with fail
  go_cut [4] (fun t wx=>x.tkE=0/\∃(fr:Bool) (q':Ro) (lo':Int) (m':Nat),t=.bool fr/\fr=(x.ro.rings && decide (x.ticked.ro.nxE=0))/\lo - 20<=lo'/\m'<=m+33/\RNd w0 wx r x.tk1 q' lo' (i+1) m'/\ChgL r.all w wx)
  case first =>
    cases rg
    · have HE:Hid (x.tkE=0):=by show _=_;unfold No.tkE;rw[HRG.out];rfl
      have HT:Hid (x.tk1=x.ticked):=by show _=_;unfold No.tk1;rw[HRG.out];rfl
      go_wp2_with fail
      go_meet
      case rel=>exact⟨HE,false,q.rtick,lo,m+1,rfl,by rw[HRG.out];rfl,by omega,by omega,by rw[HT.out];exact N3,K3⟩
    · have HC:Hid (x.tk1=x.ticked.clm/\x.tkE=x.ticked.clE):=by
        constructor
        · unfold No.tk1;rw[HRG.out];rfl
        · unfold No.tkE;rw[HRG.out];rfl
      have b3:=N3.nd.b3
      go_wp2_with fail
      refine(rrnext_rn N3).mono ?_
      rintro e w4 ⟨rfl,hw4⟩
      obtain rfl:=hw4.symm
      clear hw4
      by_cases hnx:x.ticked.ro.nxE=0
      rotate_left
      · have HE:Hid (x.tkE=0):=by show _=_;rw[HC.2];unfold No.clE;rw[if_neg hnx]
        have HT:Hid (x.tk1=x.ticked):=by show _=_;rw[HC.1];unfold No.clm;rw[if_neg hnx]
        have HNX:Hid (¬x.ticked.ro.nxE=0):=hnx
        have hnq:(((x.ticked.ro.nxE:Nat):Int)==0)=false:=beq_eq_false_iff_ne.2 (by omega)
        clear hnx
        go_wp2_with fail
        go_meet
        case rel=>exact⟨HE,false,q.rtick,lo,m+1,rfl,by rw[HRG.out,decide_eq_false HNX.out];rfl,by omega,by omega,by rw[HT.out];exact N3,K3⟩
      · rw[hnx]
        have HNX:Hid (x.ticked.ro.nxE=0):=hnx
        clear hnx b3
        obtain⟨nv,hnv⟩:∃nv,x.ticked.ro.nxV=nv:=⟨_,rfl⟩
        have HNV:Hid (x.ticked.ro.nxV=nv):=hnv
        rw[hnv]
        clear hnv
        go_wp2_with fail
        have hS:w3.drew.cell? (r.nd,2)=some (.pointer (some (r.ce,0)))/\w3.drew.cell? (r.ce,3)=x.ticked.life:=⟨N3.nd.b2,N3.lifeC⟩
        have D3:Hid (RNd w0 w3.drew r x.ticked q.rtick lo (i+1) (m+1)):=N3.below (Below.refl _ _).drew
        have HCP:Hid (x.ticked.cp=putE x.ticked.off x.ticked.y nv x.ticked.life):=by show _=_;unfold No.cp;rw[HNV.out]
        go_region_held3 (fun w'=>w'.cell? (r.nd,2)=some (.pointer (some (r.ce,0)))/\w'.cell? (r.ce,3)=x.ticked.life)
          (first | assumption | exact⟨N4.nd.b2,N4.lifeC⟩)
          (first | (go_at_call 62;refine(rcput_rn D3 HW.2.2.2.2 nv).mono ?_;rintro e w4 ⟨rfl,n4,k4⟩;rw[<- HCP.out]at n4;have N4:Hid (RNd w0 w4 r {x.ticked with y:=x.ticked.cp.2.1,off:=x.ticked.cp.2.2} q.rtick (lo - 20) (i+1) (m+1)):=n4;have K4:Hid (ChgL r.all w w4):=(K3.trans (ChgL.of (Below.refl _ _).drew)).trans k4;clear n4 k4))
        rw[<- HCP.out]
        clear hS D3 N3 K3
        by_cases hcp:x.ticked.cp.1=0
        rotate_left
        · have HE:Hid (x.tkE=x.ticked.cp.1/\x.tkE≠0):=by
            have e:x.tkE=x.ticked.cp.1:=by rw[HC.2];unfold No.clE;rw[if_pos HNX.out]
            exact⟨e,by rw[e];exact hcp⟩
          have HT:Hid (x.tick={x.ticked with y:=x.ticked.cp.2.1,off:=x.ticked.cp.2.2}):=by
            show _=_
            unfold No.tick
            rw[if_neg HE.2,HC.1]
            unfold No.clm
            rw[if_pos HNX.out,if_neg hcp]
          have hgt:(0:Int) < ((x.ticked.cp.1:Nat):Int):=by omega
          clear hcp
          generalize x.ticked.cp.1=ce at *
          go_wp2_with fail
          go_ret2
          have HL:x.nfs=[]:=by unfold No.nfs No.tickL;rw[if_neg HE.2];rfl
          exact⟨⟨.slice none 0 0,by rw[HE.1];rfl,NtsF.nil HL⟩,⟨q.rtick,lo - 20,by omega,by rw[HT.out];exact N4.more (by omega)⟩,K4⟩
        · have HE:Hid (x.tkE=0):=by show _=_;rw[HC.2];unfold No.clE;rw[if_pos HNX.out];exact hcp
          have HT:Hid (x.tk1={x.ticked with y:=x.ticked.cp.2.1,off:=x.ticked.cp.2.2,T:=adT x.ticked.now x.ticked.T (flL x.ticked.mt 32),ro:=x.ticked.ro.claim x.ticked.ro.nxV}):=by
            show _=_
            rw[HC.1]
            unfold No.clm
            rw[if_pos HNX.out,if_pos hcp]
          rw[hcp]
          clear hcp
          have b3:=N4.nd.b3
          go_wp2_with fail
          refine(rrclaim_rn N4 nv).mono ?_
          rintro e w5 ⟨⟨v5,rfl⟩,n5,k5⟩
          have N5:Hid (RNd w0 w5 r {x.ticked with y:=x.ticked.cp.2.1,off:=x.ticked.cp.2.2,ro:=x.ticked.ro.claim nv} (q.rtick.claim nv) (lo - 20) (i+1) (m+1)):=n5
          have K5:Hid (ChgL r.all w w5):=K4.trans k5
          clear n5 k5 N4 K4 b3
          have b6:=N5.nd.b6
          have m1:=N5.mi.c1
          go_wp2_with fail
          refine(rflows_rn N5).mono ?_
          rintro e w6 ⟨⟨v,rfl,ho⟩,hb6⟩
          have F6:Hid (FlR w6 v (flL x.ticked.mt 32) r.all):=FlR.of_own ho (fun b hb=>N5.blk b hb)
          have N6:Hid (RNd w0 w6 r {x.ticked with y:=x.ticked.cp.2.1,off:=x.ticked.cp.2.2,ro:=x.ticked.ro.claim nv} (q.rtick.claim nv) (lo - 20) (i+1) (m+1)):=N5.below hb6
          have K6:Hid (ChgL r.all w w6):=K5.trans (ChgL.of hb6)
          have HLL:Hid ((flL x.ticked.mt 32).length<=32):=flL_len _ _
          clear ho hb6 N5 K5 b6 m1
          generalize hLe:flL x.ticked.mt 32=L at *
          have HLE:Hid (flL x.ticked.mt 32=L):=hLe
          clear hLe
          obtain⟨p,cap,rfl,_⟩:=F6.out
          go_wp2_with fail
          go_loopw [10,11] (fun t _ wr=>∃j:Nat,j<=L.length/\t=.int .i64 j/\RNd w0 wr r {x.ticked with y:=x.ticked.cp.2.1,off:=x.ticked.cp.2.2,ro:=x.ticked.ro.claim nv,T:=adT x.ticked.now x.ticked.T (L.take j)} (q.rtick.claim nv) (lo - 20) (i+1) (m+1+j)/\ChgL r.all w wr/\FlR wr (.slice p L.length cap) L r.all) (fun t _ _=>L.length - (intOf t).toNat)
          case atStart=>exact⟨0,by omega,rfl,N6,K6,F6⟩
          case round =>
            obtain⟨j,hj,rfl,hn,hk,hf⟩:=hrel
            have NR:Hid (RNd w0 wr r {x.ticked with y:=x.ticked.cp.2.1,off:=x.ticked.cp.2.2,ro:=x.ticked.ro.claim nv,T:=adT x.ticked.now x.ticked.T (L.take j)} (q.rtick.claim nv) (lo - 20) (i+1) (m+1+j)):=hn
            have KR:Hid (ChgL r.all w wr):=hk
            have FR:Hid (FlR wr (.slice p L.length cap) L r.all):=hf
            clear hn hk hf N6 K6 F6
            by_cases hlt:j < L.length
            · obtain⟨p',cap',hv,hat⟩:=FR.out
              injection hv with hp1 hp2 hp3
              subst hp1
              obtain⟨c,hc⟩:∃c,c=L[j]:=⟨_,rfl⟩
              have HCI:Hid (L[j]? = some c):=by show _=_;rw[hc];exact List.getElem?_eq_getElem hlt
              obtain⟨g,hpg,hgn,hcs⟩:=hat j c HCI
              clear hc hat hp2 hp3
              subst hpg
              have d0:wr.cell? (g,j * 8)=c.pr:=hcs 0 _ rfl
              have d1:=hcs 1 _ rfl
              have d2:=hcs 2 _ rfl
              have d3:=hcs 3 _ rfl
              have d4:=hcs 4 _ rfl
              have d5:=hcs 5 _ rfl
              have d6:=hcs 6 _ rfl
              have d7:=hcs 7 _ rfl
              clear hcs
              have i0:(0:Int)<=(j:Int):=by omega
              have i1:(j:Int) < (L.length:Int):=by omega
              go_wp2_with fail
              clear d0 d1 d2 d3 d4 d5 d6 d7
              have B2:Hid (Below wr wr (wr.alloc (.cells #[c.pr,c.ia,c.ip,c.fa,c.fp,c.po,c.st,c.un] 110))):=aB _ _
              have Q2:Hid (FlZ (wr.alloc (.cells #[c.pr,c.ia,c.ip,c.fa,c.fp,c.po,c.st,c.un] 110)) wr c):=FlZ.new wr c
              generalize wr.alloc (.cells #[c.pr,c.ia,c.ip,c.fa,c.fp,c.po,c.st,c.un] 110)=w7 at *
              have HG:Hid (wr.heap.size<=wr.heap.size):=Nat.le_refl _
              generalize hq:wr.heap.size=F at Q2 HG ⊢
              have HQN:Hid (¬F ∈ r.all):=fun hm=>by have:=NR.blk _ hm;omega
              have HU:Hid (adT x.ticked.now x.ticked.T (L.take (j+1))=(putT (adT x.ticked.now x.ticked.T (L.take j)) c.pr c.ia c.ip c.fa c.fp c.po c.st (x.ticked.now+stay c.pr c.st)).2.2):=by
                show _=_
                rw[List.take_add_one,HCI.out]
                exact adT_snoc _ _ _ _
              have N7:Hid (RNd w0 w7 r {x.ticked with y:=x.ticked.cp.2.1,off:=x.ticked.cp.2.2,ro:=x.ticked.ro.claim nv,T:=adT x.ticked.now x.ticked.T (L.take j)} (q.rtick.claim nv) (lo - 20) (i+1) (m+1+j)):=NR.below B2
              have hsl:=stay_le c.pr c.st
              have hwr:IntKind.i64.wrap (x.ticked.now+stay c.pr c.st)=x.ticked.now+stay c.pr c.st:=by
                have:=HW.out
                have e:x.ticked.now=x.now+1:=rfl
                rw[IntKind.wrap_i64];omega
              have HTU:Hid (∀u,Calls Tryz.prog 129 #[c.pr,c.st] u fun e w'=>e=.returned (.int .i64 (stay c.pr c.st))/\w'=u):=fun u=>timeOf_any c.pr c.st u
              go_cut [100] (fun _ wx=>Below wr wr wx/\FlZ wx F {c with un:=x.ticked.now+stay c.pr c.st})
              case first =>
                have n1:w7.drew.cell? (r.nd,1)=x.ticked.now:=N7.nd.b1
                have y0:w7.drew.cell? (F,0)=c.pr:=Q2.b.c0
                have y6:w7.drew.cell? (F,6)=c.st:=Q2.b.c6
                have y7:w7.drew.cell? (F,7)=c.un:=Q2.b.c7
                have f7:w7.drew.frozen? (F,7)=false:=Q2.fr 7
                go_region_with (go_at_call 129;refine(HTU _).mono ?_;rintro e w8 ⟨rfl,rfl⟩)
                all_goals (go_wp2_with fail)
                all_goals go_meet
                all_goals exact⟨Chg.below (t2 B2 (Below.refl _ _).drew) (Chg.set F 7 _ _) (by omega),(Q2.below (Below.refl _ _).drew).un7 _⟩
              case rest =>
                obtain⟨hb8,hq8⟩:=hcut
                have B8:Hid (Below wr wr wc):=hb8
                have Q8:Hid (FlZ wc F {c with un:=x.ticked.now+stay c.pr c.st}):=hq8
                clear hb8 hq8 Q2 B2 N7 hwr hsl
                have N8:Hid (RNd w0 wc r {x.ticked with y:=x.ticked.cp.2.1,off:=x.ticked.cp.2.2,ro:=x.ticked.ro.claim nv,T:=adT x.ticked.now x.ticked.T (L.take j)} (q.rtick.claim nv) (lo - 20) (i+1) (m+1+j)):=NR.below B8
                obtain⟨un,hun⟩:∃un,x.ticked.now+stay c.pr c.st=un:=⟨_,rfl⟩
                rw[hun]at Q8 HU
                clear hun
                go_wp2_with fail
                have hS:wc.drew.cell? (r.nd,4)=some (.pointer (some (r.tb,0)))/\wc.drew.cell? (F,0)=c.pr/\wc.drew.cell? (F,1)=c.ia/\wc.drew.cell? (F,2)=c.ip/\wc.drew.cell? (F,3)=c.fa/\wc.drew.cell? (F,4)=c.fp/\wc.drew.cell? (F,5)=c.po/\wc.drew.cell? (F,6)=c.st/\wc.drew.cell? (F,7)=un:=⟨N8.nd.b4,Q8.b.c0,Q8.b.c1,Q8.b.c2,Q8.b.c3,Q8.b.c4,Q8.b.c5,Q8.b.c6,Q8.b.c7⟩
                have D8:Hid (RNd w0 wc.drew r {x.ticked with y:=x.ticked.cp.2.1,off:=x.ticked.cp.2.2,ro:=x.ticked.ro.claim nv,T:=adT x.ticked.now x.ticked.T (L.take j)} (q.rtick.claim nv) (lo - 20) (i+1) (m+1+j)):=N8.below (Below.refl _ _).drew
                go_region_held3 (fun w'=>w'.cell? (r.nd,4)=some (.pointer (some (r.tb,0)))/\w'.cell? (F,0)=c.pr/\w'.cell? (F,1)=c.ia/\w'.cell? (F,2)=c.ip/\w'.cell? (F,3)=c.fa/\w'.cell? (F,4)=c.fp/\w'.cell? (F,5)=c.po/\w'.cell? (F,6)=c.st/\w'.cell? (F,7)=un)
                  (first | assumption | exact⟨N9.nd.b4,K9.keeps HQN hS.2.1,K9.keeps HQN hS.2.2.1,K9.keeps HQN hS.2.2.2.1,K9.keeps HQN hS.2.2.2.2.1,K9.keeps HQN hS.2.2.2.2.2.1,K9.keeps HQN hS.2.2.2.2.2.2.1,K9.keeps HQN hS.2.2.2.2.2.2.2.1,K9.keeps HQN hS.2.2.2.2.2.2.2.2⟩)
                  (first | (go_at_call 130;refine(rtput_rn D8 (by have:=HW.out;have:=HLL.out;omega) {c with un:=un}).mono ?_;rintro e w9 ⟨⟨v9,rfl⟩,n9,k9⟩;have n9':RNd w0 w9 r {x.ticked with y:=x.ticked.cp.2.1,off:=x.ticked.cp.2.2,ro:=x.ticked.ro.claim nv,T:=(putT (adT x.ticked.now x.ticked.T (L.take j)) c.pr c.ia c.ip c.fa c.fp c.po c.st un).2.2} (q.rtick.claim nv) (lo - 20) (i+1) (m+1+j+1):=n9;rw[<- HU.out]at n9';have N9:Hid (RNd w0 w9 r {x.ticked with y:=x.ticked.cp.2.1,off:=x.ticked.cp.2.2,ro:=x.ticked.ro.claim nv,T:=adT x.ticked.now x.ticked.T (L.take (j+1))} (q.rtick.claim nv) (lo - 20) (i+1) (m+1+(j+1))):=n9';have K9:Hid (ChgL r.all wc.drew w9):=k9;clear n9 n9' k9))
                have F9:Hid (FlR w9 (.slice (some (g,0)) L.length cap) L r.all):=((FR.chg (ChgL.of B8.out)).chg (ChgL.of (Below.refl _ _).drew)).chg K9
                have X9:Hid (ChgL r.all w w9):=((KR.then B8).then (Below.refl _ _).drew).trans K9
                clear hS D8
                have hll:=HLL.out
                go_wp2_with fail
                go_roundw
                case rel=>exact⟨j+1,by omega,by go_num,N9,X9,F9⟩
                case measure=>simp[intOf];omega
            · obtain rfl:j=L.length:=by omega
              rw[List.take_length]at NR
              go_wp2_with fail
              go_meet
              case rel=>exact⟨HE,true,q.rtick.claim nv,lo - 20,m+1+L.length,rfl,by rw[HRG.out,decide_eq_true HNX.out];rfl,by omega,by have:=HLL.out;omega,by rw[HT.out,HNV.out];exact NR,KR⟩
  case rest =>
    obtain⟨hE,fr,q',lo',m',rfl,hfr,hlo',hm',hn,hk⟩:=hcut
    have HE:Hid (x.tkE=0/\fr=(x.ro.rings && decide (x.ticked.ro.nxE=0))/\lo - 20<=lo'/\m'<=m+33):=⟨hE,hfr,hlo',hm'⟩
    have NR:Hid (RNd w0 wc r x.tk1 q' lo' (i+1) m'):=hn
    have KR:Hid (ChgL r.all w wc):=hk
    clear hE hfr hlo' hm' hn hk N3 K3
    have b3:=NR.nd.b3
    have a3:=NR.ro.c3
    rw[NR.sm.ac]at a3
    have b1:=NR.nd.b1
    obtain⟨ac,hac⟩:∃ac,x.tk1.ro.ac=ac:=⟨_,rfl⟩
    have HAC:Hid (x.tk1.ro.ac=ac):=hac
    rw[hac]at a3
    obtain⟨du,hdu⟩:∃du,x.tk1.due=du:=⟨_,rfl⟩
    have HDU:Hid (x.tk1.due=du):=hdu
    have hdq:(x.tk1.now.tmod 3==0)=du:=by rw[<- hdu,Int.tmod_eq_emod_of_nonneg (by rw[tk1_now];have:=HW.out;omega)];unfold No.due;by_cases h:x.tk1.now % 3=0 <;> simp[h]
    clear hac hdu
    cases ac
    · have HF0:Hid (fr=false):=tk_fresh HE.1 HE.2.1 HAC
      have hfr:=HF0.out
      subst hfr
      have HX:Hid (x.tick=x.tk1/\x.tickL=[]):=by
        constructor
        · unfold No.tick No.noted;rw[if_pos HE.1,HAC.out];rfl
        · unfold No.tickL No.notes;rw[if_pos HE.1,HAC.out];rfl
      go_wp2_with fail
      go_ret2
      have HL:x.nfs=[]:=by unfold No.nfs;rw[HX.2];rfl
      exact⟨⟨.slice none 0 0,by rw[HE.1];rfl,NtsF.nil HL⟩,⟨q',lo',HE.2.2.1,by rw[HX.1];exact NR.more HE.2.2.2⟩,KR⟩
    · have b0:=NR.nd.b0
      have b2:=NR.nd.b2
      have b5:=NR.nd.b5
      have lf:=NR.lifeC
      have e1:=NR.ro.c1
      rw[NR.sm.ep]at e1
      have HN0:=nfs_ac HE.1 HAC HE.2.1 HDU
      have HNF:Hid (x.nfs=(if fr || du then [(⟨x.tk1.id,x.tk1.life,x.tk1.ro.ep,true,[]⟩:Nf)] else [])++(if du then [(⟨x.tk1.id,x.tk1.life,x.tk1.ro.ep,false,(nxL x.tk1.T x.tk1.D x.tk1.cu).map fun (j:Nat)=>(⟨(j:Int),x.tk1.T j⟩:Tc)⟩:Nf)] else [])):=HN0
      clear HN0
      have HTK:Hid (x.tick=if du then {x.tk1 with D:=toldD x.tk1.T x.tk1.D (nxL x.tk1.T x.tk1.D x.tk1.cu),cu:=nxC x.tk1.T x.tk1.D x.tk1.cu} else x.tk1):=by
        show _=_
        unfold No.tick No.noted
        rw[if_pos HE.1,HAC.out,HDU.out]
        rfl
      cases fr <;> cases du
      · go_wp2_with fail
        go_ret2
        exact⟨⟨.slice none 0 0,by rw[HE.1];rfl,NtsF.nil HNF⟩,⟨q',lo',HE.2.2.1,by rw[HTK.out];exact NR.more HE.2.2.2⟩,KR⟩
      all_goals
        go_wp2_with fail
        obtain⟨v5,w5,hr,ho5,hb5,_⟩:=app_note (u:=wc) (u':=wc.drew) (base:=wc.heap.size) (v:=.slice none 0 0) (n:=0) (cs:=[]) ⟨x.tk1.id,x.tk1.life,x.tk1.ro.ep,true,[]⟩ none 0 0 (Below.refl _ _).drew (World.ownsRow_nil _ _ _ _) (by omega) (Nat.le_refl _)
        have O5:Hid (w5.ownsRow wc 149 5 v5 1 (nfC ⟨x.tk1.id,x.tk1.life,x.tk1.ro.ep,true,[]⟩ (.slice none 0 0))):=ho5
        have B5:Hid (Below wc wc w5):=hb5
        clear ho5 hb5
        have s0:wc.drew.cell? (r.nd,0)=x.tk1.id/\wc.drew.cell? (r.nd,2)=some (.pointer (some (r.ce,0)))/\wc.drew.cell? (r.ce,3)=x.tk1.life/\wc.drew.cell? (r.nd,3)=some (.pointer (some (r.ro,0)))/\wc.drew.cell? (r.ro,1)=x.tk1.ro.ep:=⟨b0,b2,lf,b3,e1⟩
        have k1:=aB wc.drew (.cells #[x.tk1.id,x.tk1.life,x.tk1.ro.ep,.bool true,.slice none 0 0] 149)
        have s1:(wc.drew.alloc (.cells #[x.tk1.id,x.tk1.life,x.tk1.ro.ep,.bool true,.slice none 0 0] 149)).cell? (r.nd,0)=x.tk1.id/\(wc.drew.alloc (.cells #[x.tk1.id,x.tk1.life,x.tk1.ro.ep,.bool true,.slice none 0 0] 149)).cell? (r.nd,2)=some (.pointer (some (r.ce,0)))/\(wc.drew.alloc (.cells #[x.tk1.id,x.tk1.life,x.tk1.ro.ep,.bool true,.slice none 0 0] 149)).cell? (r.ce,3)=x.tk1.life/\(wc.drew.alloc (.cells #[x.tk1.id,x.tk1.life,x.tk1.ro.ep,.bool true,.slice none 0 0] 149)).cell? (r.nd,3)=some (.pointer (some (r.ro,0)))/\(wc.drew.alloc (.cells #[x.tk1.id,x.tk1.life,x.tk1.ro.ep,.bool true,.slice none 0 0] 149)).cell? (r.ro,1)=x.tk1.ro.ep:=⟨tk k1 b0,tk k1 b2,tk k1 lf,tk k1 b3,tk k1 e1⟩
        have s2:w5.cell? (r.nd,0)=x.tk1.id/\w5.cell? (r.nd,2)=some (.pointer (some (r.ce,0)))/\w5.cell? (r.ce,3)=x.tk1.life/\w5.cell? (r.nd,3)=some (.pointer (some (r.ro,0)))/\w5.cell? (r.ro,1)=x.tk1.ro.ep:=⟨tk B5 b0,tk B5 b2,tk B5 lf,tk B5 b3,tk B5 e1⟩
        go_region_held3 (fun w'=>w'.cell? (r.nd,0)=x.tk1.id/\w'.cell? (r.nd,2)=some (.pointer (some (r.ce,0)))/\w'.cell? (r.ce,3)=x.tk1.life/\w'.cell? (r.nd,3)=some (.pointer (some (r.ro,0)))/\w'.cell? (r.ro,1)=x.tk1.ro.ep) (first | exact s0 | exact s1 | exact s2) (first | (refine Eq.mpr (if_pos (by kernel_rfl)) ?_;refine wp_append_eq (Operand.tmp 127) (Operand.tmp 147) 68 rfl _ _ _ w5 rfl rfl hr ?_))
        go_wp2_with fail
      · skip
        obtain⟨p5,c5,rfl⟩:∃p5 c5,v5=.slice p5 1 c5:=by
          rcases ownsRow_cases O5 with⟨_,e0⟩ | ⟨g',c',e,_⟩
          · cases e0
          · exact⟨_,_,e⟩
        have N5:Hid (RNd w0 w5.drew r x.tk1 q' lo' (i+1) m'):=(NR.below B5).below (Below.refl _ _).drew
        have hS:w5.drew.cell? (r.nd,0)=x.tk1.id/\w5.drew.cell? (r.nd,2)=some (.pointer (some (r.ce,0)))/\w5.drew.cell? (r.ce,3)=x.tk1.life/\w5.drew.cell? (r.nd,3)=some (.pointer (some (r.ro,0)))/\w5.drew.cell? (r.ro,1)=x.tk1.ro.ep/\w5.drew.cell? (r.nd,5)=some (.pointer (some (r.te,0))):=⟨s2.1,s2.2.1,s2.2.2.1,s2.2.2.2.1,s2.2.2.2.2,N5.nd.b5⟩
        clear s0 s1 s2 k1 hr b0 b1 b2 b3 b5 lf e1 a3
        go_region_held3 (fun w'=>w'.cell? (r.nd,0)=x.tk1.id/\w'.cell? (r.nd,2)=some (.pointer (some (r.ce,0)))/\w'.cell? (r.ce,3)=x.tk1.life/\w'.cell? (r.nd,3)=some (.pointer (some (r.ro,0)))/\w'.cell? (r.ro,1)=x.tk1.ro.ep/\w'.cell? (r.nd,5)=some (.pointer (some (r.te,0))))
          (first | exact hS | exact t7 | exact t8 | exact t9)
          (first
            | (go_at_call 131;refine(rtnext_rn N5).mono ?_;rintro e w7 ⟨⟨p7,c7,rfl,ro7,fp7⟩,n7,k7⟩;have R7:Hid (RowL w7 p7 x.tk1.T (nxL x.tk1.T x.tk1.D x.tk1.cu)/\FrP w5 p7):=⟨ro7,fp7⟩;have N7:Hid (RNd w0 w7 r {x.tk1 with D:=toldD x.tk1.T x.tk1.D (nxL x.tk1.T x.tk1.D x.tk1.cu),cu:=nxC x.tk1.T x.tk1.D x.tk1.cu} q' lo' (i+1) m'):=n7;have K7:Hid (ChgL r.all w5 w7):=(ChgL.of (Below.refl _ _).drew).trans k7;clear ro7 fp7 n7 k7;have ep7:=N7.ro.c1;rw[N7.sm.ep]at ep7;have t7:w7.cell? (r.nd,0)=x.tk1.id/\w7.cell? (r.nd,2)=some (.pointer (some (r.ce,0)))/\w7.cell? (r.ce,3)=x.tk1.life/\w7.cell? (r.nd,3)=some (.pointer (some (r.ro,0)))/\w7.cell? (r.ro,1)=x.tk1.ro.ep/\w7.cell? (r.nd,5)=some (.pointer (some (r.te,0))):=⟨N7.nd.b0,N7.nd.b2,N7.lifeC,N7.nd.b3,ep7,N7.nd.b5⟩;clear ep7;obtain⟨v9,w9,hr,ho9,hb9,hk9⟩:=app_note (u:=w7) (u':=w7) (base:=wc.heap.size) (v:=.slice p5 1 c5) (n:=1) ⟨x.tk1.id,x.tk1.life,x.tk1.ro.ep,false,[]⟩ p7 8 c7 (Below.refl _ _) (owns_chgL O5 K7 (fun b hb=>NR.blk b hb)) (by omega) (Nat.le_trans B5.size K7.size);have O9:Hid (w9.ownsRow wc 149 5 v9 2 (nfC ⟨x.tk1.id,x.tk1.life,x.tk1.ro.ep,true,[]⟩ (.slice none 0 0)++nfC ⟨x.tk1.id,x.tk1.life,x.tk1.ro.ep,false,[]⟩ (.slice p7 8 c7))):=ho9;have B9:Hid (Below wc w7 w9):=hb9;have X9:Hid (∀b,b < w7.heap.size->(Value.slice p5 1 c5).ownBlock≠some b->w9.heap[b]? = w7.heap[b]?):=hk9;clear ho9 hb9 hk9;have k1:=aB w7 (.cells #[x.tk1.id,x.tk1.life,x.tk1.ro.ep,.bool false,.slice p7 8 c7] 149);have t8:(w7.alloc (.cells #[x.tk1.id,x.tk1.life,x.tk1.ro.ep,.bool false,.slice p7 8 c7] 149)).cell? (r.nd,0)=x.tk1.id/\(w7.alloc (.cells #[x.tk1.id,x.tk1.life,x.tk1.ro.ep,.bool false,.slice p7 8 c7] 149)).cell? (r.nd,2)=some (.pointer (some (r.ce,0)))/\(w7.alloc (.cells #[x.tk1.id,x.tk1.life,x.tk1.ro.ep,.bool false,.slice p7 8 c7] 149)).cell? (r.ce,3)=x.tk1.life/\(w7.alloc (.cells #[x.tk1.id,x.tk1.life,x.tk1.ro.ep,.bool false,.slice p7 8 c7] 149)).cell? (r.nd,3)=some (.pointer (some (r.ro,0)))/\(w7.alloc (.cells #[x.tk1.id,x.tk1.life,x.tk1.ro.ep,.bool false,.slice p7 8 c7] 149)).cell? (r.ro,1)=x.tk1.ro.ep/\(w7.alloc (.cells #[x.tk1.id,x.tk1.life,x.tk1.ro.ep,.bool false,.slice p7 8 c7] 149)).cell? (r.nd,5)=some (.pointer (some (r.te,0))):=⟨tk k1 t7.1,tk k1 t7.2.1,tk k1 t7.2.2.1,tk k1 t7.2.2.2.1,tk k1 t7.2.2.2.2.1,tk k1 t7.2.2.2.2.2⟩;have l0:=NR.blk _ r.m_nd;have l1:=NR.blk _ r.m_ce;have l2:=NR.blk _ r.m_ro;have t9:w9.cell? (r.nd,0)=x.tk1.id/\w9.cell? (r.nd,2)=some (.pointer (some (r.ce,0)))/\w9.cell? (r.ce,3)=x.tk1.life/\w9.cell? (r.nd,3)=some (.pointer (some (r.ro,0)))/\w9.cell? (r.ro,1)=x.tk1.ro.ep/\w9.cell? (r.nd,5)=some (.pointer (some (r.te,0))):=⟨(World.cell?_of_block (B9.block _ l0)).trans t7.1,(World.cell?_of_block (B9.block _ l0)).trans t7.2.1,(World.cell?_of_block (B9.block _ l1)).trans t7.2.2.1,(World.cell?_of_block (B9.block _ l0)).trans t7.2.2.2.1,(World.cell?_of_block (B9.block _ l2)).trans t7.2.2.2.2.1,(World.cell?_of_block (B9.block _ l0)).trans t7.2.2.2.2.2⟩;clear l0 l1 l2 k1)
            | (refine Eq.mpr (if_pos (by kernel_rfl)) ?_;refine wp_append_eq (Operand.tmp 150) (Operand.tmp 175) 68 rfl _ _ _ w9 rfl rfl hr ?_))
        clear hS t7 t8 t9 hr
        go_wp2_with fail
        go_ret2
        have hg:∀g,(Value.slice p5 1 c5).ownBlock=some g->wc.heap.size<=g:=fun g hg=>(O5.lt g hg).1
        have c7':ChgL r.all w w7:=(KR.then B5).trans K7
        have hf:ChgL r.all w w9:=⟨B9.os.trans c7'.os,B9.tape.trans c7'.tape,B9.out.output.trans c7'.output,Nat.le_trans c7'.size B9.size,fun b hb hn=>(B9.block b (Nat.lt_of_lt_of_le hb KR.size)).trans (c7'.block b hb hn)⟩
        have c79:ChgL (Value.slice p5 1 c5).ownBlock.toList w7 w9:=⟨B9.os,B9.tape,B9.out.output,B9.size,fun b hb hn=>X9.out b hb (fun e=>hn (by rw[e];simp))⟩
        have hn9:RNd w0 w9 r {x.tk1 with D:=toldD x.tk1.T x.tk1.D (nxL x.tk1.T x.tk1.D x.tk1.cu),cu:=nxC x.tk1.T x.tk1.D x.tk1.cu} q' lo' (i+1) m':=N7.kept c79 (fun b hb hm=>by
          have h1:=hg b (by simpa using hm)
          have h2:=NR.blk b hb
          omega) (fun b hm=>by
          have h1:=hg b (by simpa using hm)
          have h2:=NR.bl.size
          omega)
        have ht9:TcR w9 p7 ((nxL x.tk1.T x.tk1.D x.tk1.cu).map fun (j:Nat)=>(⟨(j:Int),x.tk1.T j⟩:Tc)):=RowL.tcR (fun j s hj=>by
          obtain⟨g,e,hc⟩:=R7.1 j s hj
          have hfr:w5.heap.size<=g:=R7.2 _ e
          refine⟨g,e,fun k hk=>?_⟩
          have hgl:g < w7.heap.size:=tlt (hc k hk)
          exact(World.cell?_of_block (X9 g hgl (fun e2=>by have:=(O5.lt g e2).2;omega))).trans (hc k hk))
        exact⟨⟨v9,by rw[HE.1];rfl,NtsF.two KR.size (fun b hb=>Nat.le_trans (Nat.le_trans KR.size B5.size) (R7.2 b hb)) HNF rfl (by rw[List.length_map];exact(nx_spec _ _ _).len) ht9 O9⟩,⟨q',lo',HE.2.2.1,by rw[HTK.out];exact hn9.more HE.2.2.2⟩,hf⟩
      · go_ret2
        exact⟨⟨v5,by rw[HE.1];rfl,NtsF.one KR.size HNF rfl O5⟩,⟨q',lo',HE.2.2.1,by rw[HTK.out];exact(NR.below B5).more HE.2.2.2⟩,KR.then B5⟩
      · skip
        obtain⟨p5,c5,rfl⟩:∃p5 c5,v5=.slice p5 1 c5:=by
          rcases ownsRow_cases O5 with⟨_,e0⟩ | ⟨g',c',e,_⟩
          · cases e0
          · exact⟨_,_,e⟩
        have N5:Hid (RNd w0 w5.drew r x.tk1 q' lo' (i+1) m'):=(NR.below B5).below (Below.refl _ _).drew
        have hS:w5.drew.cell? (r.nd,0)=x.tk1.id/\w5.drew.cell? (r.nd,2)=some (.pointer (some (r.ce,0)))/\w5.drew.cell? (r.ce,3)=x.tk1.life/\w5.drew.cell? (r.nd,3)=some (.pointer (some (r.ro,0)))/\w5.drew.cell? (r.ro,1)=x.tk1.ro.ep/\w5.drew.cell? (r.nd,5)=some (.pointer (some (r.te,0))):=⟨s2.1,s2.2.1,s2.2.2.1,s2.2.2.2.1,s2.2.2.2.2,N5.nd.b5⟩
        clear s0 s1 s2 k1 hr b0 b1 b2 b3 b5 lf e1 a3
        go_region_held3 (fun w'=>w'.cell? (r.nd,0)=x.tk1.id/\w'.cell? (r.nd,2)=some (.pointer (some (r.ce,0)))/\w'.cell? (r.ce,3)=x.tk1.life/\w'.cell? (r.nd,3)=some (.pointer (some (r.ro,0)))/\w'.cell? (r.ro,1)=x.tk1.ro.ep/\w'.cell? (r.nd,5)=some (.pointer (some (r.te,0))))
          (first | exact hS | exact t7 | exact t8 | exact t9)
          (first
            | (go_at_call 131;refine(rtnext_rn N5).mono ?_;rintro e w7 ⟨⟨p7,c7,rfl,ro7,fp7⟩,n7,k7⟩;have R7:Hid (RowL w7 p7 x.tk1.T (nxL x.tk1.T x.tk1.D x.tk1.cu)/\FrP w5 p7):=⟨ro7,fp7⟩;have N7:Hid (RNd w0 w7 r {x.tk1 with D:=toldD x.tk1.T x.tk1.D (nxL x.tk1.T x.tk1.D x.tk1.cu),cu:=nxC x.tk1.T x.tk1.D x.tk1.cu} q' lo' (i+1) m'):=n7;have K7:Hid (ChgL r.all w5 w7):=(ChgL.of (Below.refl _ _).drew).trans k7;clear ro7 fp7 n7 k7;have ep7:=N7.ro.c1;rw[N7.sm.ep]at ep7;have t7:w7.cell? (r.nd,0)=x.tk1.id/\w7.cell? (r.nd,2)=some (.pointer (some (r.ce,0)))/\w7.cell? (r.ce,3)=x.tk1.life/\w7.cell? (r.nd,3)=some (.pointer (some (r.ro,0)))/\w7.cell? (r.ro,1)=x.tk1.ro.ep/\w7.cell? (r.nd,5)=some (.pointer (some (r.te,0))):=⟨N7.nd.b0,N7.nd.b2,N7.lifeC,N7.nd.b3,ep7,N7.nd.b5⟩;clear ep7;obtain⟨v9,w9,hr,ho9,hb9,hk9⟩:=app_note (u:=w7) (u':=w7) (base:=wc.heap.size) (v:=.slice p5 1 c5) (n:=1) ⟨x.tk1.id,x.tk1.life,x.tk1.ro.ep,false,[]⟩ p7 8 c7 (Below.refl _ _) (owns_chgL O5 K7 (fun b hb=>NR.blk b hb)) (by omega) (Nat.le_trans B5.size K7.size);have O9:Hid (w9.ownsRow wc 149 5 v9 2 (nfC ⟨x.tk1.id,x.tk1.life,x.tk1.ro.ep,true,[]⟩ (.slice none 0 0)++nfC ⟨x.tk1.id,x.tk1.life,x.tk1.ro.ep,false,[]⟩ (.slice p7 8 c7))):=ho9;have B9:Hid (Below wc w7 w9):=hb9;have X9:Hid (∀b,b < w7.heap.size->(Value.slice p5 1 c5).ownBlock≠some b->w9.heap[b]? = w7.heap[b]?):=hk9;clear ho9 hb9 hk9;have k1:=aB w7 (.cells #[x.tk1.id,x.tk1.life,x.tk1.ro.ep,.bool false,.slice p7 8 c7] 149);have t8:(w7.alloc (.cells #[x.tk1.id,x.tk1.life,x.tk1.ro.ep,.bool false,.slice p7 8 c7] 149)).cell? (r.nd,0)=x.tk1.id/\(w7.alloc (.cells #[x.tk1.id,x.tk1.life,x.tk1.ro.ep,.bool false,.slice p7 8 c7] 149)).cell? (r.nd,2)=some (.pointer (some (r.ce,0)))/\(w7.alloc (.cells #[x.tk1.id,x.tk1.life,x.tk1.ro.ep,.bool false,.slice p7 8 c7] 149)).cell? (r.ce,3)=x.tk1.life/\(w7.alloc (.cells #[x.tk1.id,x.tk1.life,x.tk1.ro.ep,.bool false,.slice p7 8 c7] 149)).cell? (r.nd,3)=some (.pointer (some (r.ro,0)))/\(w7.alloc (.cells #[x.tk1.id,x.tk1.life,x.tk1.ro.ep,.bool false,.slice p7 8 c7] 149)).cell? (r.ro,1)=x.tk1.ro.ep/\(w7.alloc (.cells #[x.tk1.id,x.tk1.life,x.tk1.ro.ep,.bool false,.slice p7 8 c7] 149)).cell? (r.nd,5)=some (.pointer (some (r.te,0))):=⟨tk k1 t7.1,tk k1 t7.2.1,tk k1 t7.2.2.1,tk k1 t7.2.2.2.1,tk k1 t7.2.2.2.2.1,tk k1 t7.2.2.2.2.2⟩;have l0:=NR.blk _ r.m_nd;have l1:=NR.blk _ r.m_ce;have l2:=NR.blk _ r.m_ro;have t9:w9.cell? (r.nd,0)=x.tk1.id/\w9.cell? (r.nd,2)=some (.pointer (some (r.ce,0)))/\w9.cell? (r.ce,3)=x.tk1.life/\w9.cell? (r.nd,3)=some (.pointer (some (r.ro,0)))/\w9.cell? (r.ro,1)=x.tk1.ro.ep/\w9.cell? (r.nd,5)=some (.pointer (some (r.te,0))):=⟨(World.cell?_of_block (B9.block _ l0)).trans t7.1,(World.cell?_of_block (B9.block _ l0)).trans t7.2.1,(World.cell?_of_block (B9.block _ l1)).trans t7.2.2.1,(World.cell?_of_block (B9.block _ l0)).trans t7.2.2.2.1,(World.cell?_of_block (B9.block _ l2)).trans t7.2.2.2.2.1,(World.cell?_of_block (B9.block _ l0)).trans t7.2.2.2.2.2⟩;clear l0 l1 l2 k1)
            | (refine Eq.mpr (if_pos (by kernel_rfl)) ?_;refine wp_append_eq (Operand.tmp 150) (Operand.tmp 175) 68 rfl _ _ _ w9 rfl rfl hr ?_))
        clear hS t7 t8 t9 hr
        go_wp2_with fail
        go_ret2
        have hg:∀g,(Value.slice p5 1 c5).ownBlock=some g->wc.heap.size<=g:=fun g hg=>(O5.lt g hg).1
        have c7':ChgL r.all w w7:=(KR.then B5).trans K7
        have hf:ChgL r.all w w9:=⟨B9.os.trans c7'.os,B9.tape.trans c7'.tape,B9.out.output.trans c7'.output,Nat.le_trans c7'.size B9.size,fun b hb hn=>(B9.block b (Nat.lt_of_lt_of_le hb KR.size)).trans (c7'.block b hb hn)⟩
        have c79:ChgL (Value.slice p5 1 c5).ownBlock.toList w7 w9:=⟨B9.os,B9.tape,B9.out.output,B9.size,fun b hb hn=>X9.out b hb (fun e=>hn (by rw[e];simp))⟩
        have hn9:RNd w0 w9 r {x.tk1 with D:=toldD x.tk1.T x.tk1.D (nxL x.tk1.T x.tk1.D x.tk1.cu),cu:=nxC x.tk1.T x.tk1.D x.tk1.cu} q' lo' (i+1) m':=N7.kept c79 (fun b hb hm=>by
          have h1:=hg b (by simpa using hm)
          have h2:=NR.blk b hb
          omega) (fun b hm=>by
          have h1:=hg b (by simpa using hm)
          have h2:=NR.bl.size
          omega)
        have ht9:TcR w9 p7 ((nxL x.tk1.T x.tk1.D x.tk1.cu).map fun (j:Nat)=>(⟨(j:Int),x.tk1.T j⟩:Tc)):=RowL.tcR (fun j s hj=>by
          obtain⟨g,e,hc⟩:=R7.1 j s hj
          have hfr:w5.heap.size<=g:=R7.2 _ e
          refine⟨g,e,fun k hk=>?_⟩
          have hgl:g < w7.heap.size:=tlt (hc k hk)
          exact(World.cell?_of_block (X9 g hgl (fun e2=>by have:=(O5.lt g e2).2;omega))).trans (hc k hk))
        exact⟨⟨v9,by rw[HE.1];rfl,NtsF.two KR.size (fun b hb=>Nat.le_trans (Nat.le_trans KR.size B5.size) (R7.2 b hb)) HNF rfl (by rw[List.length_map];exact(nx_spec _ _ _).len) ht9 O9⟩,⟨q',lo',HE.2.2.1,by rw[HTK.out];exact hn9.more HE.2.2.2⟩,hf⟩
end
end Go.Proofs.YtdpmeoflgpaljaaGreatDoor
