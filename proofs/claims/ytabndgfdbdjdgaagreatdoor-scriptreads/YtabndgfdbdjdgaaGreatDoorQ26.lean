/-
  What the claimed theorem reaches, part Q26.
-/
import Derived.Test.YtabndgfdbdjdgaaGreatDoorQ21
import Derived.Test.YtabndgfdbdjdgaaGreatDoorQ25
import Derived.Test.YtabndgfdbdjdgaaGreatDoorQ24
import Derived.Test.YtabndgfdbdjdgaaGreatDoorQ00
import Derived.Test.YtabndgfdbdjdgaaGreatDoorQ17
import Derived.Test.YtabndgfdbdjdgaaGreatDoorQ18
import Derived.Test.YtabndgfdbdjdgaaGreatDoorQ22
import Derived.Test.YtabndgfdbdjdgaaGreatDoorQ06
namespace Go.Proofs.YtabndgfdbdjdgaaGreatDoor
open Go.RowKit
set_option maxRecDepth 100000
set_option maxHeartbeats 8000000
section
variable {w0 w:World} {K:WK} {B N b M pb:Nat}
theorem Ply.b0 (h:Ply w0 w K B N b M pb):w.cell? ⟨b,0,none⟩=some (.pointer (some ⟨K.wb,0,none⟩)):=(cell_of_row _ _ _ _ _ _ h.bc).trans rfl
theorem Ply.b1 (h:Ply w0 w K B N b M pb):w.cell? ⟨b,1,none⟩=some (.map (some M)):=(cell_of_row _ _ _ _ _ _ h.bc).trans rfl
theorem fly_any {W:Wo} {t:Nat} (h:Wd w0 w K W t) (P:Ply w0 w K B N b M pb) (T:Pow w) :
  Calls Tryz.prog 65 #[.pointer (some ⟨pb,0,none⟩)] w fun e w'=>e=.returned (.string ⟨(Lib.itoa (W.fl.length:Int)).toArray⟩)/\Below w.heap.size w w':=by
 have HW:Hid (Wd w0 w K W t/\Pow w):=⟨h,T⟩
 have c0:=P.pc
 have c1:=P.b0
 have hle:=h.fl.le
 clear h P T
 go_enter Tryz.func65,Tryz.ntmps65
 go_wp2_with fail
 refine(many_wd HW.out.1.wb HW.out.1.fl).mono ?_
 rintro e w2 ⟨rfl,hw⟩
 obtain rfl:=hw.symm
 clear hw
 go_wp2_with fail
 refine(itoa_any _ (by omega) (by omega) w HW.out.2).mono ?_
 rintro e w4 ⟨rfl,b4⟩
 have B4:Hid (Below w.heap.size w w4):=b4
 clear b4
 go_wp2_with fail
 go_ret
 exact⟨rfl,B4.out⟩
def clT (n e:Int):ByteArray:=⟨(Lib.itoa n++32::Lib.itoa e).toArray⟩
theorem claimText_any (n e:Int) (n0:0<=n) (n1:n<=1000000) (e0:0<=e) (e1:e<=1000000) (w:World) (T:Pow w) :
  Calls Tryz.prog 121 #[.int .i64 n,.int .i64 e] w fun r w'=>r=.returned (.string (clT n e))/\Below w.heap.size w w':=by
 have HT:Hid (Pow w):=T
 have l1:=itoa_len n0 (by omega)
 have l2:=itoa_len e0 (by omega)
 clear T
 go_enter Tryz.func121,Tryz.ntmps121
 go_wp2_with fail
 refine(itoa_any n (by omega) (by omega) w HT.out).mono ?_
 rintro r w2 ⟨rfl,b2⟩
 have B2:Hid (Below w.heap.size w w2):=b2
 clear b2
 go_wp2_with fail
 refine(itoa_any e (by omega) (by omega) w2 (HT.out.below B2.out)).mono ?_
 rintro r w3 ⟨rfl,b3⟩
 have B3:Hid (Below w.heap.size w w3):=B2.out.trans (b3.mono B2.out.size)
 clear b3
 go_wp2_with fail
 go_ret
 exact⟨congrArg (fun x:ByteArray=>Ending.returned (.string x)) (by apply ByteArray.ext;simp[clT,ByteArray.data_append]),B3.out⟩
end
def noT:ByteArray:=⟨#[110,111,116,104,105,110,103]⟩
def swT (W:Wo):ByteArray:=if W.he=0 then noT else clT W.hn W.he
theorem switchText_any {w0 w:World} {K:WK} {W:Wo} {t B N b M pb:Nat} (h:Wd w0 w K W t) (P:Ply w0 w K B N b M pb) (T:Pow w) (hn:W.he≠0->(W.hn=0\/W.hn=1)/\0 < W.he/\W.he<=1000000) :
  Calls Tryz.prog 67 #[.pointer (some ⟨b,0,none⟩)] w fun e w'=>e=.returned (.string (swT W))/\Below w.heap.size w w':=by
 have HW:Hid (Wd w0 w K W t/\Pow w):=⟨h,T⟩
 have c1:=P.b0
 clear h P T
 go_enter Tryz.func67,Tryz.ntmps67
 go_wp2_with fail
 refine(switch_any HW.out.1.wb).mono ?_
 rintro e w2 ⟨rfl,b2⟩
 have B2:Hid (Below w.heap.size w w2):=b2
 clear b2
 by_cases hz:W.he=0
 ·rw[if_pos hz]
  have HE:Hid ((swT W)=noT):=if_pos hz
  clear hn hz
  go_wp2_with fail
  go_ret
  exact⟨by rw[HE.out];rfl,B2.out⟩
 ·obtain⟨h1,h2,h3⟩:=hn hz
  have hz1:(W.he==0)=false:=beq_eq_false_iff_ne.2 hz
  rw[if_neg hz]
  have HE:Hid ((swT W)=clT W.hn W.he):=if_neg hz
  clear hn
  go_wp2_with fail
  refine(claimText_any W.hn W.he (by omega) (by omega) (by omega) (by omega) w2 (HW.out.2.below B2.out)).mono ?_
  rintro e w3 ⟨rfl,b3⟩
  have B3:Hid (Below w.heap.size w w3):=B2.out.trans (b3.mono B2.out.size)
  clear b3
  go_wp2_with fail
  go_ret
  exact⟨by rw[HE.out];rfl,B3.out⟩
def Wo.twE (W:Wo) (n:Int):Nat:=if W.flE n=0 then (if W.fl.length=200 then 6 else 0) else W.flE n
def Wo.twiced (W:Wo) (n:Int):Wo:=if W.twE n=0 then (match W.fl[n.toNat]? with | some t=>{W with fl:=W.fl.insertIdx (n.toNat+1) t} | none=>W) else W
theorem Wo.twiced_mem {W:Wo} {n:Int}:∀t ∈ (W.twiced n).fl,t ∈ W.fl:=fun t ht=>by
 unfold Wo.twiced at ht
 split at ht
 ·cases hu:W.fl[n.toNat]? with
  | none=>rw[hu]at ht;exact ht
  | some u =>
   rw[hu]at ht
   have ht':t ∈ W.fl.insertIdx (n.toNat+1) u:=ht
   have hl:=(List.getElem?_eq_some_iff.1 hu).1
   rcases(List.mem_insertIdx (by omega)).1 ht' with e | e
   ·rw[e];exact List.mem_of_getElem? hu
   ·exact e
 ·exact ht
theorem Wo.twiced_same (W:Wo) (n:Int):(W.twiced n).nd=W.nd/\(W.twiced n).yb=W.yb/\(W.twiced n).ru=W.ru/\(W.twiced n).hn=W.hn/\(W.twiced n).he=W.he/\(W.twiced n).ev=W.ev:=by
 unfold Wo.twiced
 split
 ·split <;> exact⟨rfl,rfl,rfl,rfl,rfl,rfl⟩
 ·exact⟨rfl,rfl,rfl,rfl,rfl,rfl⟩
theorem tick_id (x:No):x.tick.id=x.id/\x.tk1.id=x.id:=by
 have hn:∀z:No,z.noted.id=z.id:=fun z=>by unfold No.noted;split <;> rfl
 have h1:x.tk1.id=x.id:=by
  unfold No.tk1 No.clm
  repeat' split
  all_goals rfl
 unfold No.tick
 split
 ·exact⟨(hn _).trans h1,h1⟩
 ·exact⟨h1,h1⟩
theorem ins_id (x:No) (p:Pk):(x.ins p).id=x.id:=by
 unfold No.ins No.ou No.stp No.bg
 repeat' split
 all_goals rfl
theorem ots_id (x:No) (p:Pk):(x.ots p).id=x.id:=by
 unfold No.ots No.stp
 repeat' split
 all_goals rfl
theorem hrd_id (x:No) (t:Nf):(x.hrd t).id=x.id:=by
 unfold No.hrd
 repeat' split
 all_goals rfl
def Zo (a:Int):Prop:=a=0\/a=1
structure Sk (q:Nat) (W:Wo):Prop where
 n:∀i x,W.nd i=some x->Zo x.id
 f:∀t ∈ W.fl,Zo t.fr/\0<=t.ep
 s:Zo W.hn/\0<=W.he/\W.he<=2 * (q:Int)
 e:∀e ∈ W.ev,Zo e.1/\0<=e.2/\e.2<=2 * (q:Int)
section
variable {q:Nat} {W:Wo}
theorem Sk.mono {q':Nat} (h:Sk q W) (hq:q<=q'):Sk q' W:=⟨h.n,h.f,⟨h.s.1,h.s.2.1,by have:=h.s.2.2;omega⟩,fun e he=>⟨(h.e e he).1,(h.e e he).2.1,by have:=(h.e e he).2.2;omega⟩⟩
theorem Sk.born (l:List Rl):Sk 1 (Wo.born l):=by
 refine⟨fun i x hx=>?_,fun t ht=>?_,⟨.inl rfl,Int.le_refl 0,?_⟩,fun e he=>?_⟩
 ·have hx':(if i < 2 then some (No.new i new0.oned l) else none)=some x:=hx
  split at hx'
  ·rename_i hi
   cases hx'
   show Zo (i:Int)
   unfold Zo
   omega
  ·cases hx'
 ·have h':t ∈ ([]:List Nf):=ht
  simp at h'
 ·show(0:Int)<=_
  omega
 ·have h':e ∈ ([]:List (Int×Int)):=he
  simp at h'
theorem Sk.setNd (h:Sk q W) {i:Nat} {x:No} (hx:Zo x.id):Sk q {W with nd:=setN W.nd i (some x)}:=by
 refine⟨fun j y hy=>?_,h.f,h.s,h.e⟩
 have hy':setN W.nd i (some x) j=some y:=hy
 by_cases e:j=i
 ·subst e;rw[setN_same]at hy';cases hy';exact hx
 ·rw[setN_other _ _ e]at hy';exact h.n j y hy'
theorem Sk.fallen (h:Sk q W) {i:Nat} {y:By}:Sk q (W.fallen i y):=by
 refine⟨fun j z hz=>?_,h.f,h.s,h.e⟩
 have hz':setN W.nd i none j=some z:=hz
 by_cases e:j=i
 ·subst e;rw[setN_same]at hz';cases hz'
 ·rw[setN_other _ _ e]at hz';exact h.n j z hz'
theorem Sk.landed (h:Sk q W) (k:Nat):Sk q (W.landed k):=⟨h.n,fun t ht=>h.f t (List.mem_of_mem_eraseIdx ht),h.s,h.e⟩
theorem Sk.sent (h:Sk q W) {l:List Nf} (hl:∀t ∈ l,Zo t.fr/\0<=t.ep):Sk q (W.sent l):=⟨h.n,fun t ht=>by
 have ht':t ∈ W.fl++l.take (200 - W.fl.length):=ht
 rcases List.mem_append.1 ht' with a | a
 ·exact h.f t a
 ·exact hl t (List.mem_of_mem_take a),h.s,h.e⟩
theorem Sk.noted (h:Sk q W) {a:Int×Int} (ha:Zo a.1/\0<=a.2/\a.2<=2 * (q:Int)):Sk q (W.noted a):=⟨h.n,h.f,h.s,fun e he=>by
 have he':e ∈ (if W.ev.length < 1000 then W.ev++[a] else W.ev):=he
 split at he'
 ·rcases List.mem_append.1 he' with b | b
  ·exact h.e e b
  ·rw[List.mem_singleton.1 b];exact ha
 ·exact h.e e he'⟩
theorem XI.ep0 {x:No} (h:XI q x):0<=x.ro.ep:=by have:=h.ep;omega
theorem Sk.tick (h:Sk q W) (hI:In q W) (hq:q<=300000) (n:Int):Sk (q+1) (W.tcd n):=by
 unfold Wo.tcd
 split
 ·rename_i hu
  cases hx:W.nd n.toNat with
  | none=>exact h.mono (by omega)
  | some x =>
   have hX:=hI.up _ x hx
   have hid:=h.n _ x hx
   have h1:=h.mono (q':=q+1) (by omega)
   have hfly:∀t ∈ x.tickL.map x.tk1.fly,Zo t.fr/\0<=t.ep:=fun t ht=>by
    obtain⟨u,_,rfl⟩:=List.mem_map.1 ht
    exact⟨by show Zo x.tk1.id;rw[(tick_id x).2];exact hid,(hX.tk1 hq).ep0⟩
   have hnn:Zo ((n.toNat:Nat):Int):=by
    unfold Wo.upE at hu
    split at hu
    ·unfold Zo;omega
    ·cases hu
   have hti:Zo x.tick.id:=by rw[(tick_id x).1];exact hid
   show Sk (q+1) (W.ticked n.toNat x)
   unfold Wo.ticked
   split
   ·split
    ·have h2:=h1.setNd (i:=n.toNat) hti
     exact(h2.noted (a:=(((n.toNat:Nat):Int),x.tick.ro.ep)) ⟨hnn,(hX.tick hq).ep0,(hX.tick hq).eq⟩).sent hfly
    ·exact(h1.setNd hti).sent hfly
   ·split
    ·exact h1.fallen
    ·exact h1.setNd hti
 ·exact h.mono (by omega)
theorem Sk.down (h:Sk q W) (n:Int):Sk q (W.downed n):=by
 unfold Wo.downed
 split
 ·cases hx:W.nd n.toNat with
  | none=>exact h
  | some x=>exact h.fallen
 ·exact h
theorem Sk.upN (h:Sk q W) (n:Int):Sk q (W.upped n):=by
 unfold Wo.upped
 split
 ·rename_i e
  unfold Wo.roE at e
  split at e
  ·rename_i h2
   split at e
   ·omega
   ·refine h.setNd ?_
    show Zo ((n.toNat:Nat):Int)
    unfold Zo
    omega
  ·omega
 ·exact h
theorem Sk.cut (h:Sk q W) (n m:Int):Sk q (W.cutted n m):=by
 unfold Wo.cutted
 split
 ·cases hx:W.nd n.toNat with
  | none=>exact h
  | some x=>exact h.setNd (h.n _ x hx)
 ·exact h
theorem Sk.inside (h:Sk q W) (p:Pk):Sk q (W.ins p):=by
 unfold Wo.ins
 split
 ·rename_i i x hc
  exact h.setNd (by rw[ins_id];exact h.n i x (cho_some hc).2.1)
 ·exact h
theorem Sk.outside (h:Sk q W) (p:Pk):Sk q (W.ots p):=by
 unfold Wo.ots
 split
 ·rename_i i x hc
  exact h.setNd (by rw[ots_id];exact h.n i x (cho_some hc).2.1)
 ·exact h
theorem Sk.drop (h:Sk q W) (n:Int):Sk q (W.dropped n):=by
 unfold Wo.dropped
 split
 ·exact h.landed _
 ·exact h
theorem Sk.dlv (h:Sk q W) (hI:In q W) (n:Int):Sk q (W.dlv n):=by
 unfold Wo.dlv
 split
 ·cases ht:W.fl[n.toNat]? with
  | none=>exact h
  | some t =>
   have hep:=hI.fl t (List.mem_of_getElem? ht)
   have hf:=h.f t (List.mem_of_getElem? ht)
   show Sk q (W.delivered n.toNat t)
   unfold Wo.delivered
   split
   ·unfold Wo.heard
    split
    ·exact⟨(h.landed n.toNat).n,(h.landed n.toNat).f,⟨hf.1,hf.2,hep⟩,h.e⟩
    ·exact h.landed _
   ·unfold Wo.handed
    split
    ·rename_i x hx
     exact(h.landed n.toNat).setNd (by rw[hrd_id];exact h.n _ x hx)
    ·exact h.landed _
 ·exact h
theorem twiced_se (n:Int):(W.twiced n).ev=W.ev/\(W.twiced n).hn=W.hn/\(W.twiced n).he=W.he:=by
 unfold Wo.twiced
 repeat' split
 all_goals exact⟨rfl,rfl,rfl⟩
theorem Sk.twice (h:Sk q W) (n:Int):Sk q (W.twiced n):=by
 have s:=W.twiced_same n
 have s2:=twiced_se (W:=W) n
 exact⟨fun i x hx=>h.n i x (by rw[<- s.1];exact hx),fun t ht=>h.f t (Wo.twiced_mem t ht),by rw[s2.2.1,s2.2.2];exact h.s,by rw[s2.1];exact h.e⟩
theorem In.twiced (h:In q W) (n:Int):In q (W.twiced n):=by
 have s:=W.twiced_same n
 refine⟨fun i x hx=>h.up i x (by rw[<- s.1];exact hx),fun i hi hn=>?_,fun t ht=>h.fl t (Wo.twiced_mem t ht)⟩
 rw[s.2.1]
 exact h.dn i hi (by rw[<- s.1];exact hn)
end
theorem Sk.wt {n:Int}:∀(k:Nat) {q:Nat} {W:Wo},Sk q W->In q W->q+k<=300000->Sk (q+k) (wt n k W).2
 | 0,_,_,h,_,_=>h
 | k+1,q,W,h,hI,hq=>by
  unfold Go.Proofs.YtabndgfdbdjdgaaGreatDoor.wt
  split
  ·have:=Sk.wt (n:=n) k (h.tick hI (by omega) n) (hI.tick (by omega) n) (by omega)
   rw[show q+(k+1)=q+1+k by omega]
   exact this
  ·exact(h.tick hI (by omega) n).mono (by omega)
def dla:Nat->Wo->Wo
 | 0,W=>W
 | d+1,W=>(dla d W).dlv 0
theorem In.dla {q:Nat} {W:Wo} (h:In q W):∀d,In q (dla d W)
 | 0=>h
 | d+1=>(In.dla h d).dlv 0
theorem Sk.dla {q:Nat} {W:Wo} (h:Sk q W) (hI:In q W):∀d,Sk q (dla d W)
 | 0=>h
 | d+1=>(Sk.dla h hI d).dlv (In.dla hI d) 0
theorem dlv0_fl (W:Wo):(W.dlv 0).fl=W.fl.eraseIdx 0:=by
 unfold Wo.dlv Wo.flE
 cases hf:W.fl with
 | nil=>simp[hf]
 | cons t l =>
  rw[if_pos (by rw[if_pos];simp)]
  show(W.delivered 0 t).fl=_
  have e:(W.landed 0).fl=(t::l).eraseIdx 0:=by show W.fl.eraseIdx 0=_;rw[hf]
  unfold Wo.delivered Wo.heard Wo.handed
  repeat' split
  all_goals exact e
theorem dla_fl (V:Wo):∀k,(dla k V).fl.length=V.fl.length - k
 | 0=>rfl
 | k+1=>by
  show((dla k V).dlv 0).fl.length=_
  rw[dlv0_fl]
  have:=dla_fl V k
  by_cases h:(dla k V).fl=[]
  ·rw[h]at this ⊢
   simp at this ⊢
   omega
  ·rw[List.length_eraseIdx_of_lt (by have:=List.length_pos_iff.2 h;omega)]
   omega
section
variable {w0 w:World} {K:WK} {W:Wo} {t:Nat} {s:Nat->Addr}
def flM (wb:Nat) (w:World):Nat:=match w.cell? ⟨wb,7,none⟩ with | some (.slice _ n _)=>n | _=>0
theorem Wd.flM (h:Wd w0 w K W t):flM K.wb w=W.fl.length:=by
 have c7:w.cell? ⟨K.wb,7,none⟩=some (slV K.fg W.fl.length):=h.wb.c 7
 obtain⟨p,c,e⟩:=h.fl.sl
 rw[e]at c7
 unfold Go.Proofs.YtabndgfdbdjdgaaGreatDoor.flM
 rw[c7]
def Yk (w:World) (K:WK) (Y:Nat->Option Obj):Prop:=(∀i,i < 2->∃q,K.yk i=some q)/\∀q o,Y q=some o->w.heap[q]? = some o/\K.tag q=9
theorem Yk.below {w':World} {Y:Nat->Option Obj} (h:Yk w K Y) (hb:Below w.heap.size w w'):Yk w' K Y:=⟨h.1,fun q o e=>by
 obtain⟨h1,h2⟩:=h.2 q o e
 exact⟨(hb.block q (block_in h1)).trans h1,h2⟩⟩
theorem Yk.mv {w':World} {K':WK} {Y:Nat->Option Obj} (h:Yk w K Y) (m:Mv K K' w w'):Yk w' K' Y:=⟨by rw[m.yk];exact h.1,fun q o e=>by
 obtain⟨h1,h2⟩:=h.2 q o e
 exact⟨(m.block q (block_in h1) (.inl h2)).trans h1,by rw[m.tag q (block_in h1)];exact h2⟩⟩
def Pw (w0 w:World) (wb:Nat) (Y:Nat->Option Obj) (B N b M pb:Nat) (W:Wo) (t:Nat):Prop:=∃K,Wd w0 w K W t/\Ply w0 w K B N b M pb/\Yk w K Y/\K.wb=wb
section
variable {w0 w w':World} {Y:Nat->Option Obj} {wb B N b M pb t:Nat} {W:Wo}
theorem Pw.below (h:Pw w0 w wb Y B N b M pb W t) (hb:Below w.heap.size w w'):Pw w0 w' wb Y B N b M pb W t:=by
 obtain⟨K,wd,pl,yk,e⟩:=h
 exact⟨K,wd.below hb,pl.below hb,yk.below hb,e⟩
theorem Pw.mk {K':WK} {W':Wo} {t':Nat} (pl:Ply w0 w K B N b M pb) (yk:Yk w K Y) (wd:Wd w0 w' K' W' t') (m:Mv K K' w w'):Pw w0 w' K.wb Y B N b M pb W' t' :=
 ⟨K',wd,pl.mv m,yk.mv m,m.wb⟩
theorem Pw.bl (h:Pw w0 w wb Y B N b M pb W t):Below w0.heap.size w0 w:=by obtain⟨K,wd,_⟩:=h;exact wd.bl
theorem Pw.mono {t':Nat} (h:Pw w0 w wb Y B N b M pb W t) (ht:t<=t'):Pw w0 w wb Y B N b M pb W t':=by
 obtain⟨K,wd,r⟩:=h
 exact⟨K,wd.mono ht,r⟩
theorem Pw.b0 (h:Pw w0 w wb Y B N b M pb W t):w.cell? ⟨b,0,none⟩=some (.pointer (some ⟨wb,0,none⟩)):=by
 obtain⟨K,wd,pl,yk,rfl⟩:=h
 exact pl.b0
theorem Pw.b1 (h:Pw w0 w wb Y B N b M pb W t):w.cell? ⟨b,1,none⟩=some (.map (some M)):=by
 obtain⟨K,wd,pl,yk,rfl⟩:=h
 exact pl.b1
theorem Pw.pc (h:Pw w0 w wb Y B N b M pb W t):w.cell? ⟨pb,0,none⟩=some (.pointer (some ⟨b,0,none⟩)):=by
 obtain⟨K,wd,pl,yk,rfl⟩:=h
 exact pl.pc
theorem Pw.flM (h:Pw w0 w wb Y B N b M pb W t):flM wb w=W.fl.length:=by
 obtain⟨K,wd,pl,yk,rfl⟩:=h
 exact wd.flM
theorem Pw.fle (h:Pw w0 w wb Y B N b M pb W t):W.fl.length<=200:=by
 obtain⟨K,wd,pl,yk,rfl⟩:=h
 exact wd.fl.le
theorem Pw.many (h:Pw w0 w wb Y B N b M pb W t):Calls Tryz.prog 66 #[.pointer (some ⟨wb,0,none⟩)] w fun e w'=>e=.returned (.int .i64 W.fl.length)/\w'=w:=by
 obtain⟨K,wd,pl,yk,rfl⟩:=h
 exact many_wd wd.wb wd.fl
theorem Pw.dlv (S:SeM w0 s) (h:Pw w0 w wb Y B N b M pb W t) (n:Int):Calls Tryz.prog 53 #[.pointer (some ⟨wb,0,none⟩),.int .i64 n] w fun e w'=>e=.returned (terr s (W.flE n))/\Pw w0 w' wb Y B N b M pb (W.dlv n) t:=by
 obtain⟨K,wd,pl,yk,rfl⟩:=h
 refine(deliver_wd S wd n).mono ?_
 rintro e w' ⟨he,K',wd',m⟩
 exact⟨he,Pw.mk pl yk wd' m⟩
end
theorem deliverAll_any {Y:Nat->Option Obj} {wb B N b M pb:Nat} (S:SeM w0 s) (h:Pw w0 w wb Y B N b M pb W t) :
  Calls Tryz.prog 64 #[.pointer (some ⟨b,0,none⟩)] w fun e w'=>e=.returned (.int .i64 W.fl.length)/\Pw w0 w' wb Y B N b M pb (dla W.fl.length W) t:=by
 have HS:Hid (SeM w0 s):=S
 have L0:Hid (Pw w0 w wb Y B N b M pb (dla 0 W) t):=h
 have hle:=h.fle
 clear S h
 go_enter Tryz.func64,Tryz.ntmps64
 go_wp2_with fail
 go_loopw [3] (fun tv u=>∃d:Nat,d<=W.fl.length/\tv=.int .i64 d/\Pw w0 u wb Y B N b M pb (dla d W) t) (fun _ u=>flM wb u)
 case atStart=>exact⟨0,by omega,rfl,L0.out⟩
 case round =>
  obtain⟨d,hd,rfl,ld⟩:=hrel
  have LD:Hid (Pw w0 wr wb Y B N b M pb (dla d W) t):=ld
  have HM:Hid (flM wb wr=(dla d W).fl.length):=ld.flM
  have HD:Hid ((dla d W).fl.length=W.fl.length - d):=dla_fl W d
  have c0:=ld.b0
  clear ld L0
  go_wp2_with fail
  refine LD.out.many.mono ?_
  rintro e w2 ⟨rfl,hw⟩
  obtain rfl:=hw.symm
  clear hw
  rw[HD.out]
  by_cases hlt:d < W.fl.length
  ·have i1:(0:Int) < ((W.fl.length - d:Nat):Int):=by omega
   go_wp2_with fail
   refine(LD.out.dlv HS.out 0).mono ?_
   rintro e w3 ⟨rfl,l3⟩
   have L3:Hid (Pw w0 w3 wb Y B N b M pb (dla (d+1) W) t):=l3
   clear l3 LD
   go_wp2_with fail
   refine⟨⟨d+1,by omega,by go_num,L3.out⟩,?_⟩
   rw[L3.out.flM,HM.out,HD.out,dla_fl]
   omega
  ·obtain rfl:d=W.fl.length:=by omega
   have i1:¬(0:Int) < ((W.fl.length - W.fl.length:Nat):Int):=by omega
   go_wp2_with fail
   go_ret
   exact⟨rfl,LD.out⟩
theorem all_any {Y:Nat->Option Obj} {wb B N b M pb:Nat} (S:SeM w0 s) (h:Pw w0 w wb Y B N b M pb W t) (T:Pow w0) :
  Calls Tryz.prog 62 #[.pointer (some ⟨pb,0,none⟩)] w fun e w'=>e=.returned (.string ⟨(Lib.itoa (W.fl.length:Int)).toArray⟩)/\Pw w0 w' wb Y B N b M pb (dla W.fl.length W) t:=by
 have HS:Hid (SeM w0 s/\Pow w0):=⟨S,T⟩
 have L0:Hid (Pw w0 w wb Y B N b M pb W t):=h
 have c0:=h.pc
 have hle:=h.fle
 clear S h T
 go_enter Tryz.func62,Tryz.ntmps62
 go_wp2_with fail
 refine(deliverAll_any HS.out.1 L0.out).mono ?_
 rintro e w2 ⟨rfl,l2⟩
 have L2:Hid (Pw w0 w2 wb Y B N b M pb (dla W.fl.length W) t):=l2
 clear l2
 go_wp2_with fail
 refine(itoa_any _ (by omega) (by omega) w2 (HS.out.2.below L2.out.bl)).mono ?_
 rintro e w4 ⟨rfl,b4⟩
 have L4:Hid (Pw w0 w4 wb Y B N b M pb (dla W.fl.length W) t):=L2.out.below b4
 clear b4
 go_wp2_with fail
 go_ret
 exact⟨rfl,L4.out⟩
end
theorem ownsRow_lit0 {w:World} {base:Nat} (e:TypeId) (size:Nat) (hb:base<=w.heap.size):(w.alloc (.cells #[] e)).ownsRow base e size (.slice (some (w.heap.size,0)) 0 0) 0 [] :=
 ⟨by simp,.inr ⟨w.heap.size,0,#[],rfl,hb,heap_alloc_new w _,Nat.le_refl _,by unfold maxLen;omega,by simp,by simp⟩⟩
theorem clone_ev (p:Option Addr) (n cap:Nat) (xs:List Value) (w:World) (hl:xs.length=n * 2) (hp:p=none->n=0) (hc:∀a,p=some a->∀j u,xs[j]? = some u->w.cell? (a.add j)=some u) (h1:∀u ∈ xs,u.oneCell'=true) (hn:n<=1000) :
  Calls Tryz.prog 154 #[.slice p n cap] w fun e w'=>(∃v',e=.returned v'/\w'.ownsRow w 108 2 v' n xs)/\Below w w w':=by
 cases p with
 | none =>
  obtain rfl:=hp rfl
  have hx:xs=[]:=List.length_eq_zero_iff.1 (by omega)
  subst hx
  have he:=Lib.run_eql_slice_nil (P := Tryz.prog) w 110 108 none 0 cap 0 0 Tryz.underlying110
  clear hl hp hc h1 hn
  go_enter Tryz.func154,Tryz.ntmps154
  go_wp2_with fail
  go_ret
  exact⟨⟨_,rfl,⟨rfl,.inl ⟨rfl,rfl⟩⟩⟩,Below.refl _ _⟩
 | some a =>
  obtain⟨i0,hi,hz0,hz1,hz2⟩:=info_parts Tryz.infoEv
  have he:=Lib.run_eql_slice_nil (P := Tryz.prog) w 110 108 (some a) n cap 0 0 Tryz.underlying110
  have HL:Hid (xs.length=n * 2):=hl
  have HC:Hid (∀j u,xs[j]? = some u->w.cell? (a.add j)=some u):=hc a rfl
  have H1:Hid (∀u ∈ xs,u.oneCell'=true):=h1
  have HN:Hid (n<=1000):=hn
  clear hl hp hc h1 hn
  go_enter Tryz.func154,Tryz.ntmps154
  go_wp2_with (at_builtin;refine wpList_append_own _ rfl _ _ 110 rfl w 108 i0 _ 2 16 Tryz.underlying110 hi hz0 hz1 hz2 rfl (by decide) (.slice (some ⟨w.heap.size,0,none⟩) 0 0) 0 [] rfl ?g0 a n cap xs rfl HL ?g1 H1 (by have:=HN.out;unfold maxLen;omega) (by have:=HN.out;omega) ?g2 ?g3)
  case g0=>exact ownsRow_lit0 108 2 (Nat.le_refl _)
  case g1=>exact fun j u hj=>tk (aB _ _) (HC j u hj)
  case g2=>simp
  intro v' w1 hown hgrow _
  have ho:w1.ownsRow w 108 2 v' n xs:=by simpa using hown
  have HO:Hid (w1.ownsRow w 108 2 v' n xs):=ho
  clear ho
  have HG:Hid (Below w w w1):=((Below.refl _ _).alloc (Nat.le_refl _) _).grown hgrow (by simp) (fun j hj=>by simp[Value.ownBlock]at hj;omega)
  clear hown hgrow
  obtain⟨vp,vn,vc,hv⟩:∃vp vn vc,v'=.slice vp vn vc:=by
   rcases ownsRow_cases HO with⟨e,_⟩ | ⟨g',c',e,_⟩
   ·exact⟨_,_,_,e⟩
   ·exact⟨_,_,_,e⟩
  subst hv
  go_wp2_with fail
  go_ret
  exact⟨⟨_,rfl,HO⟩,HG⟩
theorem evC_len (l:List (Int×Int)):(evC l).length=l.length * 2:=by
 induction l with
 | nil=>rfl
 | cons e l ih=>rw[show evC (e::l)=[.int .i64 e.1,.int .i64 e.2]++evC l by simp[evC],List.length_append,ih];simp;omega
theorem evC_one (l:List (Int×Int)):∀u ∈ evC l,u.oneCell'=true:=fun u hu=>by
 obtain⟨e,_,he⟩:=List.mem_flatMap.1 hu
 simp only[List.mem_cons,List.not_mem_nil,or_false]at he
 rcases he with rfl | rfl <;> rfl
theorem events_wd {w0 w:World} {K:WK} {x:Wo} {t:Nat} (h:Wd w0 w K x t) :
  Calls Tryz.prog 122 #[.pointer (some (K.wb,0))] w fun e w'=>(∃v',e=.returned v'/\w'.ownsRow w 108 2 v' x.ev.length (evC x.ev))/\Below w w w':=by
 obtain⟨p,c,hV,hown,htag⟩:=h.evo
 have c8:w.cell? (K.wb,8)=some (.slice p x.ev.length c):=by have:=h.wb.c 8;rw[<- hV];exact this
 have HC:Hid (Calls Tryz.prog 154 #[.slice p x.ev.length c] w fun e w'=>(∃v',e=.returned v'/\w'.ownsRow w 108 2 v' x.ev.length (evC x.ev))/\Below w w w'):=by
  refine clone_ev p x.ev.length c (evC x.ev) w (evC_len _) (fun e=>?_) (fun a ea j u hj=>?_) (evC_one _) h.ev.le
  ·rcases ownsRow_cases hown with⟨q,q2⟩ | ⟨g,cc,q,_⟩
   ·exact q2
   ·rw[e]at q;cases (Value.slice.inj q).1
  ·rcases ownsRow_cases hown with⟨q,q2⟩ | ⟨g,cc,q,_⟩
   ·rw[ea]at q;cases (Value.slice.inj q).1
   ·subst ea
    have e2:a=(g,0):=Option.some.inj (Value.slice.inj q).1
    subst e2
    exact hown.cells (g:=g) rfl j u hj
 clear h hV hown htag
 go_enter Tryz.func122,Tryz.ntmps122
 go_wp2_with fail
 refine HC.mono ?_
 rintro e w1 ⟨⟨v',rfl,ho⟩,hb⟩
 have HO:Hid (w1.ownsRow w 108 2 v' x.ev.length (evC x.ev)):=ho
 have HB:Hid (Below w w w1):=hb
 clear ho hb
 go_wp2_with fail
 go_ret
 exact⟨⟨_,rfl,HO⟩,HB⟩
theorem evC_get:∀(l:List (Int×Int)) (i:Nat) (e:Int×Int),l[i]? = some e->(evC l)[i * 2]? = some (.int .i64 e.1)/\(evC l)[i * 2+1]? = some (.int .i64 e.2)
 | [],_,_,h=>by simp at h
 | a::l,0,e,h=>by
  have:a=e:=by simpa using h
  subst this
  exact⟨rfl,rfl⟩
 | a::l,i+1,e,h=>by
  have ih:=evC_get l i e (by simpa using h)
  have e1:evC (a::l)=.int .i64 a.1::.int .i64 a.2::evC l:=by simp[evC]
  rw[e1,show(i+1) * 2=i * 2+2 by omega,show i * 2+2+1=i * 2+1+2 by omega]
  exact ih
theorem own_evs {w:World} {B:Nat} {v:Value} {L:List (Int×Int)} (h:w.ownsRow B 108 2 v L.length (evC L)):∃(p:Option Addr) (cap:Nat),v=.slice p L.length cap/\∀(j:Nat) x,L[j]? = some x->∃g,p=some ⟨g,0,none⟩/\B<=g/\w.cell? ⟨g,j * 2,none⟩=some (.int .i64 x.1)/\w.cell? ⟨g,j * 2+1,none⟩=some (.int .i64 x.2):=by
 rcases h.2 with⟨h1,h2⟩ | ⟨g,cap,cur,h1,h2,h3,h4,h5,h6,h7⟩
 ·refine⟨none,0,by rw[h1,h2],fun j x hx=>?_⟩
  rw[List.length_eq_zero_iff.1 h2]at hx
  simp at hx
 ·refine⟨some (g,0),cap,h1,fun j x hx=>⟨g,rfl,h2,?_⟩⟩
  have key:∀k u,(evC L)[k]? = some u->w.cell? ⟨g,k,none⟩=some u:=fun k u h8=>by
   rw[<- h7,List.getElem?_take]at h8
   split at h8
   ·have h9:cur[k]? = some u:=by simpa using h8
    simp[World.cell?,h3,h9]
   ·cases h8
  exact⟨key _ _ (evC_get L j x hx).1,key _ _ (evC_get L j x hx).2⟩
theorem lens_le {c:Nat}:∀(xs:List (List UInt8)),(∀x ∈ xs,x.length<=c)->Lib.lens xs<=c * xs.length
 | [],_=>by simp[Lib.lens]
 | x::r,h=>by
  have ih:=lens_le r (fun y hy=>h y (List.mem_cons_of_mem _ hy))
  have hx:=h x (List.mem_cons_self ..)
  have e:Lib.lens (x::r)=x.length+Lib.lens r:=by simp[Lib.lens]
  rw[e,List.length_cons,Nat.mul_add,Nat.mul_one]
  omega
theorem join_le {c:Nat} {sep:List UInt8}:∀(xs:List (List UInt8)),(∀x ∈ xs,x.length<=c)->(Lib.join xs sep).length<=(sep.length+c) * xs.length
 | [],_=>by simp[Lib.join_nil]
 | x::r,h=>by
  rw[Lib.join_length]
  have:=lens_le (x::r) h
  have e:sep.length * r.length<=sep.length * (x::r).length:=Nat.mul_le_mul_left _ (by simp)
  rw[Nat.add_mul]
  omega
theorem clT_len {n e:Int} (n0:0<=n) (n1:n<=1000000) (e0:0<=e) (e1:e<=1000000):(clT n e).data.toList.length<=15:=by
 have l1:=itoa_len n0 (by omega)
 have l2:=itoa_len e0 (by omega)
 simp[clT]
 omega
theorem ows_below {w w':World} {b n:Nat} {v:Value} {cs:List Value} (h:w.ownsRow b 9 1 v n cs) (hb:Below w.heap.size w w'):w'.ownsRow b 9 1 v n cs :=
 h.kept (row:=none) ⟨hb.os,hb.tape,hb.output,hb.size,fun k hk _=>hb.block k hk⟩ (Classical.em _)
def evTs (l:List (Int×Int)):List ByteArray:=l.map fun e=>clT e.1 e.2
def evT (W:Wo):ByteArray:=if W.ev=[] then noT else ⟨(Lib.join ((evTs W.ev).map (·.data.toList)) [44,32]).toArray⟩
theorem ev_more {w wr w1:World} {v v':Value} {L:List (Int×Int)} {k:Nat} {x:Int×Int} {o1:Obj} {y:ByteArray} (hx:L[k]? = some x) (hy:clT x.1 x.2=y) (hown:wr.ownsRow w.heap.size 9 1 v k ((evTs (L.take k)).map Value.string)) (hb:Below w.heap.size w wr)
  (o':w1.ownsRow w.heap.size 9 1 v' (k+1) ((evTs (L.take k)).map Value.string++[.string y])) (hg:(wr.alloc o1).grownBy w1 v.ownBlock) :
  w1.ownsRow w.heap.size 9 1 v' (k+1) ((evTs (L.take (k+1))).map Value.string)/\Below w.heap.size w w1:=by
 refine⟨?_,(hb.alloc hb.size _).grown hg (by have:=hb.size;simp;omega) (fun j hj=>(hown.lt _ hj).1)⟩
 have e:evTs (L.take (k+1))=evTs (L.take k)++[y]:=by
  rw[List.take_add_one,hx]
  simp[evTs,hy]
 rw[e];simpa using o'
theorem eventsText_any {w0 w:World} {Y:Nat->Option Obj} {wb B N b M pb t q:Nat} {W:Wo} (h:Pw w0 w wb Y B N b M pb W t) (T:Pow w) (hS:Sk q W) (hq:q<=300000) :
  Calls Tryz.prog 68 #[.pointer (some ⟨b,0,none⟩)] w fun e w'=>e=.returned (.string (evT W))/\Below w.heap.size w w':=by
 have c1:=h.b0
 obtain⟨K,wd,pl,yk,rfl⟩:=h
 obtain⟨i0,hi,hz0,hz1,hz2⟩:=info_parts Tryz.infoS
 have HW:Hid (Wd w0 w K W t/\Pow w/\Sk q W/\q<=300000):=⟨wd,T,hS,hq⟩
 have hle:=wd.ev.le
 clear T wd pl yk hS hq
 go_enter Tryz.func68,Tryz.ntmps68
 go_wp2_with fail
 refine(events_wd HW.out.1).mono ?_
 rintro e w2 ⟨⟨v2,rfl,own2⟩,b2⟩
 obtain⟨vp,vc,rfl,hev⟩:=own_evs own2
 have HV:Hid (∀(j:Nat) x,W.ev[j]? = some x->∃g,vp=some ⟨g,0,none⟩/\w.heap.size<=g/\w2.cell? ⟨g,j * 2,none⟩=some (.int .i64 x.1)/\w2.cell? ⟨g,j * 2+1,none⟩=some (.int .i64 x.2)):=hev
 have B2:Hid (Below w.heap.size w w2):=b2
 clear own2 hev b2
 obtain⟨n,hn⟩:∃n,n=W.ev.length:=⟨_,rfl⟩
 rw[<- hn]at hle ⊢
 have HNE:Hid (n=W.ev.length):=hn
 clear hn
 go_wp2_with fail
 go_loopw [3,5,12] (fun v _ tv wr=>∃j:Nat,j<=n/\tv=.int .i64 j/\wr.ownsRow w2.heap.size 9 1 v j ((evTs (W.ev.take j)).map Value.string)/\Below w2.heap.size w2 wr) (fun _ _ tv _=>n - (intOf tv).toNat)
 case atStart=>exact⟨0,by omega,rfl,World.ownsRow_nil _ _ _ _,Below.refl _ _⟩
 case round =>
  obtain⟨j,hj,rfl,hown,hbr⟩:=hrel
  have HO:Hid (wr.ownsRow w2.heap.size 9 1 u3 j ((evTs (W.ev.take j)).map Value.string)):=hown
  have HB:Hid (Below w2.heap.size w2 wr):=hbr
  clear hown hbr
  by_cases hlt:j < n
  ·obtain⟨x,hx⟩:∃x,W.ev[j]? = some x:=by
    have:=HNE.out
    exact⟨W.ev[j]'(by omega),List.getElem?_eq_getElem _⟩
   have HX:Hid (W.ev[j]? = some x):=hx
   obtain⟨g,rfl,hg,d0,d1⟩:=HV.out j x hx
   have he:=HW.out.2.2.1.e x (List.mem_of_getElem? hx)
   have hq:=HW.out.2.2.2
   have z1:=he.1
   unfold Zo at z1
   have z2:=he.2
   obtain⟨xa,xe⟩:=x
   simp only at d0 d1 z1 z2
   have d0':=tk HB.out d0
   have d1':=tk HB.out d1
   have x0:0<=xa:=by omega
   have x1:xa<=1000000:=by omega
   have x2:xe<=1000000:=by omega
   have x3:0<=xe:=by omega
   have hgl:g < wr.heap.size:=tlt d0'
   have i0':(0:Int)<=(j:Int):=by omega
   have i1:(j:Int) < (n:Int):=by omega
   clear d0 d1 hx he z1 z2 hq
   go_wp2_with fail
   refine(claimText_any xa xe x0 x1 x3 x2 _ ((HW.out.2.1.below B2.out).below (HB.out.alloc HB.out.size _))).mono ?_
   rintro e w3 ⟨rfl,b3⟩
   have B3:Hid (Below w2.heap.size w2 w3):=t2 (HB.out.alloc HB.out.size _) b3
   have O3:Hid (w3.ownsRow w2.heap.size 9 1 u3 j ((evTs (W.ev.take j)).map Value.string)):=ows_below (HO.out.alloc _) b3
   clear b3
   obtain⟨y,hy⟩:∃y,clT xa xe=y:=⟨_,rfl⟩
   have HY:Hid (clT xa xe=y):=hy
   rw[hy]
   clear hy
   go_wp2_with (at_builtin;refine wpList_append_own _ rfl _ _ 22 rfl w2.heap.size 9 i0 (.string ByteArray.empty) 1 16 Tryz.underlying22 hi hz0 hz1 hz2 rfl (by decide) _ _ _ rfl (O3.out.alloc _) ⟨w3.heap.size,0,none⟩ 1 1 [.string y] rfl rfl ?c1 ?c2 ?c3 ?c4 ?c5 ?_)
   case c1 =>
    intro j u hj
    match j,hj with
    | 0,hj=>simp at hj;subst hj;simp[Addr.add]
   case c2=>intro u hu;simp at hu;subst hu;rfl
   case c3=>unfold maxLen;omega
   case c4=>omega
   case c5=>have:=B3.out.size;simp;omega
   intro v' w4 hown' hgrow _
   have R:=ev_more HX.out HY.out O3.out B3.out hown' hgrow
   have HR:Hid (w4.ownsRow w2.heap.size 9 1 v' (j+1) ((evTs (W.ev.take (j+1))).map Value.string)/\Below w2.heap.size w2 w4):=R
   clear hown' hgrow R
   go_wp2_with fail
   go_roundw
   case rel=>exact⟨j+1,by omega,by go_num,HR.out.1,HR.out.2⟩
   case measure=>simp[intOf];omega
  ·obtain rfl:j=n:=by omega
   have BW:Hid (Below w.heap.size w wr):=t2 B2.out HB.out
   have hnn:=HNE.out
   have htk:W.ev.take j=W.ev:=by rw[hnn];exact List.take_length
   have ho:=HO.out
   rw[htk]at ho
   obtain⟨hlen,hrow⟩:=ho
   by_cases hz:W.ev=[]
   ·have HE:Hid (evT W=noT):=if_pos hz
    have hj0:j=0:=by rw[hnn,hz];rfl
    subst hj0
    have hex:∃b c,u3=.slice b 0 c:=by
     rcases hrow with⟨h,_⟩ | ⟨g,cap,cur,h,_⟩
     ·exact⟨_,_,h⟩
     ·exact⟨_,_,h⟩
    obtain⟨b',c',rfl⟩:=hex
    clear hlen hrow htk hnn
    go_wp2_with fail
    go_ret
    exact⟨by rw[HE.out];rfl,BW.out⟩
   ·have HE:Hid (evT W=⟨(Lib.join ((evTs W.ev).map (·.data.toList)) [44,32]).toArray⟩):=if_neg hz
    have hpos:1<=j:=by have:=List.length_pos_iff.2 hz;omega
    rcases hrow with⟨_,h⟩ | ⟨g,cap,cur,rfl,hg1,hg2,hg3,hg4,hg5,hg6⟩
    ·omega
    have hcells:∀(i:Nat) x,(evTs W.ev)[i]? = some x->wr.cell? ⟨g,0+i,none⟩=some (.string x):=by
     intro i x hx
     have hjx:((evTs W.ev).map Value.string)[i]? = some (.string x):=by rw[List.getElem?_map,hx];rfl
     rw[<- hg6]at hjx
     rw[Nat.zero_add]
     have hcur:cur[i]? = some (.string x):=by
      rw[List.getElem?_take]at hjx
      split at hjx
      ·simpa using hjx
      ·cases hjx
     simp[World.cell?,hg2,hcur]
    have HC:Hid (∀(i:Nat) x,(evTs W.ev)[i]? = some x->wr.cell? ⟨g,0+i,none⟩=some (.string x)):=hcells
    have hgl:Hid (g < wr.heap.size):=by
     rcases Nat.lt_or_ge g wr.heap.size with h' | h'
     ·exact h'
     ·simp[Array.getElem?_eq_none h']at hg2
    have hel:(evTs W.ev).length=j:=by rw[hnn];simp[evTs]
    have HEL:Hid ((evTs W.ev).length=j/\j<=cap):=⟨hel,hg3⟩
    have HJ:Hid ((Lib.join ((evTs W.ev).map (·.data.toList)) [44,32]).length<=140737488355328):=by
     have:=join_le (c:=15) (sep:=[44,32]) ((evTs W.ev).map (·.data.toList)) (fun x hx=>by
      obtain⟨y,hy,rfl⟩:=List.mem_map.1 hx
      obtain⟨a,ha,rfl⟩:=List.mem_map.1 hy
      have he:=HW.out.2.2.1.e a ha
      have hq:=HW.out.2.2.2
      have z1:=he.1
      unfold Zo at z1
      exact clT_len (by omega) (by omega) (by omega) (by omega))
     rw[List.length_map,hel]at this
     simp at this
     show _<=_
     omega
    have hnz:((j:Int)==0)=false:=beq_eq_false_iff_ne.2 (by omega)
    clear hlen hz hg1 hg2 hg3 hg4 hg5 hg6 hcells htk hnn hel
    go_wp2_with fail
    have hJ := Tryz.strings_Join g 0 cap (evTs W.ev) ⟨#[44,32]⟩ wr HC.out hgl.out (by have:=HEL.out.1;omega) (by have:=HEL.out;omega) HJ.out
    rw[HEL.out.1]at hJ
    refine hJ.mono ?_
    rintro e w5 ⟨rfl,hb5⟩
    have B5:Hid (Below w.heap.size w w5):=t2 BW.out hb5
    clear hb5 hJ
    go_wp2_with fail
    go_ret
    exact⟨by rw[HE.out];rfl,B5.out⟩
section
variable {w:World} {v:Value} {ws:List ByteArray}
def WsI (w:World) (v:Value) (ws:List ByteArray):Prop:=∃p c,v=.slice p ws.length c/\ws.length<=c/\∀(j:Nat) y,ws[j]? = some y->∃Z o,p=some ⟨Z,o,none⟩/\w.cell? ⟨Z,o+j,none⟩=some (.string y)
theorem WsI.below {w':World} (h:WsI w v ws) (hb:Below w.heap.size w w'):WsI w' v ws:=by
 obtain⟨p,c,e,hc,hw⟩:=h
 refine⟨p,c,e,hc,fun j y hy=>?_⟩
 obtain⟨Z,o,e2,d⟩:=hw j y hy
 exact⟨Z,o,e2,tk hb d⟩
def restL (ws:List ByteArray):List UInt8:=Lib.join (ws.map (·.data.toList)) [32]
theorem join_ws (h:WsI w v ws) (hl:(restL ws).length<=4000) (hn:ws.length<=5000) :
  Calls Tryz.prog 91 #[v,.string ⟨#[32]⟩] w fun e w'=>e=.returned (.string ⟨(restL ws).toArray⟩)/\Below w.heap.size w w':=by
 obtain⟨p,c,rfl,hc,hw⟩:=h
 cases ws with
 | nil=>exact(Tryz.strings_Join_none p c ⟨#[32]⟩ w).mono fun e w' ⟨he,hb⟩=>⟨he,by rw[hb];exact Below.refl _ _⟩
 | cons a r =>
  obtain⟨Z,o,rfl,d0⟩:=hw 0 a rfl
  exact Tryz.strings_Join Z o c (a::r) ⟨#[32]⟩ w (fun j x hx=>by
   obtain⟨Z',o',e,d⟩:=hw j x hx
   cases e
   exact d) (tlt d0) (by omega) hc (by
   show(restL (a::r)).length<=_
   omega)
def rdP (x:ByteArray):Option Pk:=match parseP x with
 | some (pr,u,v,y,z,fl)=>if pkErr pr u v y z fl=0/\x=⟨(pText pr u v y z fl).toArray⟩ then some ⟨pr,u,v,y,z,fl⟩ else none
 | none=>none
def ecO {α:Type} (o:Option α):Nat:=if o.isSome then 0 else 1
theorem pkread_any (x:ByteArray) (hx:x.size<=4000) (s:Nat->Addr) (w:World) (E:EnvL w s) :
  Calls Tryz.prog 11 #[.string x] w fun e w'=>e=.returned (.tuple #[((rdP x).getD noP).v,terr s (ecO (rdP x))])/\Below w.heap.size w w':=by
 cases h:parseP x with
 | none =>
  have e:rdP x=none:=by unfold rdP;rw[h]
  rw[e]
  exact read_none x hx s w E h
 | some r =>
  obtain⟨pr,u,v,y,z,fl⟩:=r
  by_cases h2:pkErr pr u v y z fl=0
  ·by_cases h3:x=⟨(pText pr u v y z fl).toArray⟩
   ·have e:rdP x=some ⟨pr,u,v,y,z,fl⟩:=by unfold rdP;rw[h];exact if_pos ⟨h2,h3⟩
    rw[e]
    exact read_ok x hx pr u v y z fl s w E h (pkErr_zero.1 h2) h3
   ·have e:rdP x=none:=by unfold rdP;rw[h];exact if_neg (fun q=>h3 q.2)
    rw[e]
    exact read_diff x hx pr u v y z fl s w E h (pkErr_zero.1 h2) h3
  ·have e:rdP x=none:=by unfold rdP;rw[h];exact if_neg (fun q=>h2 q.1)
   rw[e]
   obtain⟨k,hk⟩:∃k,pkErr pr u v y z fl=k+1:=⟨pkErr pr u v y z fl - 1,by omega⟩
   exact read_err x hx pr u v y z fl k s w E h hk
theorem ra_pkt {s:Nat->Addr} (h:WsI w v ws) (hl:(restL ws).length<=4000) (hn:ws.length<=5000) (E:EnvL w s) :
  Calls Tryz.prog 82 #[.string ⟨#[80,65,67,75,69,84]⟩,v] w fun e w'=>e=.returned (.tuple #[argV 0 0 ((rdP ⟨(restL ws).toArray⟩).getD noP),terr s (ecO (rdP ⟨(restL ws).toArray⟩))])/\Below w.heap.size w w':=by
 have HW:Hid (WsI w v ws/\(restL ws).length<=4000/\ws.length<=5000/\EnvL w s):=⟨h,hl,hn,E⟩
 clear h hl hn E
 go_enter Tryz.func82,Tryz.ntmps82
 go_wp2_with fail
 have B0:Hid (Below w.heap.size w (w.alloc (argB 0 0 noP))):=aB _ _
 refine(join_ws (HW.out.1.below B0.out) HW.out.2.1 HW.out.2.2.1).mono ?_
 rintro e w2 ⟨rfl,b2⟩
 have hA:(w.alloc (argB 0 0 noP)).heap[w.heap.size]? = some (argB 0 0 noP):=heap_alloc_new _ _
 have h2:w2.heap[w.heap.size]? = some (argB 0 0 noP):=(b2.block _ (block_in hA)).trans hA
 have H2:Hid (w2.heap[w.heap.size]? = some (argB 0 0 noP)/\Below w.heap.size w w2):=⟨h2,t2 B0.out b2⟩
 clear h2 b2 hA
 go_wp2_with fail
 refine(pkread_any ⟨(restL ws).toArray⟩ (by have:=HW.out.2.1;simpa [ByteArray.size] using this) s w2 (HW.out.2.2.2.below H2.out.2)).mono ?_
 rintro e w3 ⟨rfl,b3⟩
 obtain⟨p,hp⟩:∃p,(rdP ⟨(restL ws).toArray⟩).getD noP=p:=⟨_,rfl⟩
 obtain⟨ev,hev⟩:∃ev,terr s (ecO (rdP ⟨(restL ws).toArray⟩))=ev:=⟨_,rfl⟩
 have HP:Hid ((rdP ⟨(restL ws).toArray⟩).getD noP=p/\terr s (ecO (rdP ⟨(restL ws).toArray⟩))=ev):=⟨hp,hev⟩
 rw[hp,hev]
 clear hp hev
 have h3:w3.heap[w.heap.size]? = some (argB 0 0 noP):=(b3.block _ (block_in H2.out.1)).trans H2.out.1
 have H3:Hid (w3.heap[w.heap.size]? = some (argB 0 0 noP)/\Below w.heap.size w w3):=⟨h3,t2 H2.out.2 b3⟩
 have hq3:w.heap.size < w3.heap.size:=block_in h3
 clear h3 b3
 go_upto_region 3 with fail
 have h4:(w3.alloc (.cells #[.int .i64 p.pr,.int .i64 p.a1,.int .i64 p.p1,.int .i64 p.a2,.int .i64 p.p2,.int .i64 p.fl] 41)).heap[w.heap.size]? = some (argB 0 0 noP):=((aB w3 _).block _ hq3).trans H3.out.1
 obtain⟨w5,hst,h5,c5⟩:=argZ_store h4 0 0 p
 have H5:Hid (w5.heap[w.heap.size]? = some (argB 0 0 p)/\Below w.heap.size w w5):=⟨h5,Chg.below (t2 H3.out.2 (aB _ _)) c5 (Nat.le_refl _)⟩
 unfold argV at hst
 clear h4 h5 c5
 go_wp2_with (refine wpList_store_eq rfl 126 _ _ rfl _ _ _ rfl rfl hst ?_)
 have q:=argC H5.out.1
 clear hst
 go_wp2_with fail
 exact bodyPost_ret (v:=.tuple #[argV 0 0 p,ev]) (by simp[results,Tryz.results82,go_sem,q.c0,q.c1,q.c2,q.c3,q.c4,q.c5,q.c6,q.c7,argV]) rfl ⟨by rw[HP.out.1,HP.out.2],H5.out.2⟩
end
end Go.Proofs.YtabndgfdbdjdgaaGreatDoor
