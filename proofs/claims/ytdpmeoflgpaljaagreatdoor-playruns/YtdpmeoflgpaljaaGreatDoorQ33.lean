/-
  What the claimed theorem reaches, part Q33.
-/
import Derived.Test.YtdpmeoflgpaljaaGreatDoorQ22
import Derived.Test.YtdpmeoflgpaljaaGreatDoorQ23
import Derived.Test.YtdpmeoflgpaljaaGreatDoorQ07
import Derived.Maps.AppendAt
import Derived.Laws.OwnMore
import Derived.Deep.RegionHeld3
import Derived.Test.YtdpmeoflgpaljaaGreatDoorQ00
namespace Go.Proofs.YtdpmeoflgpaljaaGreatDoor
open Go.RowKit
set_option maxRecDepth 100000
set_option maxHeartbeats 8000000
section
variable {w:World} {l:List Nf}
theorem scells_same (p r:Option Addr) (ca cb:Nat) (cs:List Tc) (w:World) (A:TcR w p cs) (B:TcR w r cs) (h8:cs.length<=8) :
  Calls Tryz.prog 76 #[.slice p cs.length ca,.slice r cs.length cb] w fun e w'=>e=.returned (.bool true)/\Below w w w':=by
 have HA:Hid (TcR w p cs):=A
 have HB:Hid (TcR w r cs):=B
 have n0:(cs.length:Int)<=8:=by omega
 clear A B
 go_enter Tryz.func76,Tryz.ntmps76
 go_wp2_with fail
 go_loopw [5] (fun t wr=>∃j:Nat,j<=cs.length/\t=.int .i64 j/\Below w w wr) (fun t _=>cs.length - (intOf t).toNat)
 case atStart=>exact⟨0,by omega,rfl,Below.refl _ _⟩
 case round =>
  obtain⟨j,hj,rfl,hbr⟩:=hrel
  have B1:Hid (Below w w wr):=hbr
  clear hbr
  by_cases hlt:j < cs.length
  ·obtain⟨s,hs⟩:∃s,cs[j]? = some s:=⟨_,List.getElem?_eq_getElem hlt⟩
   obtain⟨g1,o1,rfl,a0,a1,a2,a3,a4,a5,a6,a7,a8,a9⟩:=HA.below B1 j s hs
   obtain⟨g2,o2,rfl,b0,b1,b2,b3,b4,b5,b6,b7,b8,b9⟩:=HB.below B1 j s hs
   obtain⟨sl,c⟩:=s
   simp only at a0 b0 a1 b1 a2 b2 a3 b3 a4 b4 a5 b5 a6 b6 a7 b7 a8 b8 a9 b9
   have i0:(0:Int)<=(j:Int):=by omega
   have i1:(j:Int) < (cs.length:Int):=by omega
   have hq:∀w:World,(binOp .neq 112 (.agg #[sl,c.ve,c.pr,c.ia,c.ip,c.fa,c.fp,c.po,c.st,c.un]) (.agg #[sl,c.ve,c.pr,c.ia,c.ip,c.fa,c.fp,c.po,c.st,c.un])).run Tryz.prog w=.ok (.bool false) w:=neq_cell _ _
   have B2:Hid (Below w w wr.drew):=B1.drew
   clear hs HA HB
   go_wp2_with fail
   go_region
   all_goals
    go_wp2_with fail
    go_roundw
    case rel=>exact⟨j+1,by omega,by go_num,B2⟩
    case measure=>simp[intOf];omega
  ·have hlt':¬(j:Int) < (cs.length:Int):=by omega
   go_wp2_with fail
   go_ret
   exact⟨rfl,B1⟩
def RdT (w:World) (p:Option Addr) (l:List Nf) (cvs:List Value):Prop:=∀(j:Nat) t,l[j]? = some t->∃g q c,p=some ⟨g,0,none⟩/\cvs[j]? = some (.slice q t.cs.length c)/\w.cell? ⟨g,j * 5,none⟩=some (.int .i64 t.fr)/\w.cell? ⟨g,j * 5+1,none⟩=some (.int .i64 t.li)/\w.cell? ⟨g,j * 5+2,none⟩=some (.int .i64 t.ep)/\w.cell? ⟨g,j * 5+3,none⟩=some (.bool t.cl)/\w.cell? ⟨g,j * 5+4,none⟩=some (.slice q t.cs.length c)
theorem RdT.below {w':World} {p:Option Addr} {cvs:List Value} (h:RdT w p l cvs) (hb:Below w w w'):RdT w' p l cvs:=fun j t ht=>by
 obtain⟨g,q,c,e,hv,c0,c1,c2,c3,c4⟩:=h j t ht
 exact⟨g,q,c,e,hv,tk hb c0,tk hb c1,tk hb c2,tk hb c3,tk hb c4⟩
def RdC (w:World) (l:List Nf) (cvs:List Value):Prop:=∀(j:Nat) t,l[j]? = some t->∃q c,cvs[j]? = some (.slice q t.cs.length c)/\TcR w q t.cs/\t.cs.length<=8
theorem RdC.below {w':World} {cvs:List Value} (h:RdC w l cvs) (hb:Below w w w'):RdC w' l cvs:=fun j t ht=>by
 obtain⟨q,c,hv,R,h8⟩:=h j t ht
 exact⟨q,c,hv,R.below hb,h8⟩
theorem snotes_same (p r:Option Addr) (ca cb:Nat) (l:List Nf) (us vs:List Value) (w:World) (A:RdT w p l us) (B:RdT w r l vs) (AC:RdC w l us) (BC:RdC w l vs) (hn:l.length<=200) :
  Calls Tryz.prog 32 #[.slice p l.length ca,.slice r l.length cb] w fun e w'=>e=.returned (.bool true)/\Below w w w':=by
 have HA:Hid (RdT w p l us/\RdC w l us):=⟨A,AC⟩
 have HB:Hid (RdT w r l vs/\RdC w l vs):=⟨B,BC⟩
 have n0:(l.length:Int)<=200:=by omega
 clear A B AC BC
 go_enter Tryz.func32,Tryz.ntmps32
 go_wp2_with fail
 go_loopw [5] (fun t wr=>∃j:Nat,j<=l.length/\t=.int .i64 j/\Below w w wr) (fun t _=>l.length - (intOf t).toNat)
 case atStart=>exact⟨0,by omega,rfl,Below.refl _ _⟩
 case round =>
  obtain⟨j,hj,rfl,hbr⟩:=hrel
  have B1:Hid (Below w w wr):=hbr
  clear hbr
  by_cases hlt:j < l.length
  ·obtain⟨s,hs⟩:∃s,l[j]? = some s:=⟨_,List.getElem?_eq_getElem hlt⟩
   obtain⟨g1,q1,k1,rfl,e1,a0,a1,a2,a3,a4⟩:=HA.1.below B1 j s hs
   obtain⟨g2,q2,k2,rfl,e2,b0,b1,b2,b3,b4⟩:=HB.1.below B1 j s hs
   have HC:Hid (∀u,Below w w u->Calls Tryz.prog 76 #[.slice q1 s.cs.length k1,.slice q2 s.cs.length k2] u fun e w'=>e=.returned (.bool true)/\Below u u w'):=fun u hu=>by
    obtain⟨x1,y1,f1,R1,h8⟩:=HA.2 j s hs
    obtain⟨x2,y2,f2,R2,_⟩:=HB.2 j s hs
    rw[e1]at f1;cases f1
    rw[e2]at f2;cases f2
    exact scells_same _ _ _ _ _ _ (R1.below hu) (R2.below hu) h8
   have i0:(0:Int)<=(j:Int):=by omega
   have i1:(j:Int) < (l.length:Int):=by omega
   have B2:Hid (Below w w wr.drew):=B1.drew
   have s0:wr.drew.cell? (g1,j * 5)=s.fr/\wr.drew.cell? (g1,j * 5+1)=s.li/\wr.drew.cell? (g1,j * 5+2)=s.ep/\wr.drew.cell? (g1,j * 5+3)=some (.bool s.cl)/\wr.drew.cell? (g1,j * 5+4)=some (.slice q1 s.cs.length k1)/\wr.drew.cell? (g2,j * 5)=s.fr/\wr.drew.cell? (g2,j * 5+1)=s.li/\wr.drew.cell? (g2,j * 5+2)=s.ep/\wr.drew.cell? (g2,j * 5+3)=some (.bool s.cl)/\wr.drew.cell? (g2,j * 5+4)=some (.slice q2 s.cs.length k2):=⟨a0,a1,a2,a3,a4,b0,b1,b2,b3,b4⟩
   have HS:Hid (∀u,Below wr.drew.heap.size wr.drew u->(u.cell? (g1,j * 5)=s.fr/\u.cell? (g1,j * 5+1)=s.li/\u.cell? (g1,j * 5+2)=s.ep/\u.cell? (g1,j * 5+3)=some (.bool s.cl)/\u.cell? (g1,j * 5+4)=some (.slice q1 s.cs.length k1)/\u.cell? (g2,j * 5)=s.fr/\u.cell? (g2,j * 5+1)=s.li/\u.cell? (g2,j * 5+2)=s.ep/\u.cell? (g2,j * 5+3)=some (.bool s.cl)/\u.cell? (g2,j * 5+4)=some (.slice q2 s.cs.length k2))):=fun u hu=>⟨tk hu a0,tk hu a1,tk hu a2,tk hu a3,tk hu a4,tk hu b0,tk hu b1,tk hu b2,tk hu b3,tk hu b4⟩
   have hcl:(s.cl != s.cl)=false:=bne_self_eq_false _
   have hcd:decide (s.cl=s.cl)=true:=decide_eq_true rfl
   clear hs HA HB e1 e2 a0 a1 a2 a3 a4 b0 b1 b2 b3 b4
   go_wp2_with fail
   go_region_held3 (fun w'=>w'.cell? (g1,j * 5)=s.fr/\w'.cell? (g1,j * 5+1)=s.li/\w'.cell? (g1,j * 5+2)=s.ep/\w'.cell? (g1,j * 5+3)=some (.bool s.cl)/\w'.cell? (g1,j * 5+4)=some (.slice q1 s.cs.length k1)/\w'.cell? (g2,j * 5)=s.fr/\w'.cell? (g2,j * 5+1)=s.li/\w'.cell? (g2,j * 5+2)=s.ep/\w'.cell? (g2,j * 5+3)=some (.bool s.cl)/\w'.cell? (g2,j * 5+4)=some (.slice q2 s.cs.length k2)) (first | exact s0 | assumption) (first
    | (go_at_call 76;refine(HC _ B2).mono ?_;rintro e w4 ⟨rfl,hb4⟩;have s4:=HS.out w4 hb4;have B4:Hid (Below w w w4):=t2 B2 hb4;clear hb4))
   all_goals
    go_wp2_with fail
    go_roundw
    case rel=>exact⟨j+1,by omega,by go_num,B4⟩
    case measure=>simp[intOf];omega
  ·have hlt':¬(j:Int) < (l.length:Int):=by omega
   go_wp2_with fail
   go_ret
   exact⟨rfl,B1⟩
theorem five_ats (w:World) (t:Nf) (v:Value) (k:Nat) (u:Value) (hu:(nfC t v)[k]? = some u):(w.alloc (.cells #[t.fr,t.li,t.ep,.bool t.cl,v] 149)).cell? (Addr.add (w.heap.size,0) k)=some u:=by
 rw[tadd,Nat.zero_add,nw]
 simpa [nfC] using hu
theorem nfR_step {us:List Value} {j:Nat} {t:Nf} {v:Value} (h1:l[j]? = some t) (h2:us[j]? = some v):((nfR l us).take (j+1)).flatten=((nfR l us).take j).flatten++nfC t v:=by
 rw[List.take_add_one,nfR_get h1 h2]
 simp
theorem own_nts {B:Nat} {e:TypeId} {v:Value} {us:List Value} (h:w.ownsRow B e 5 v l.length (nfR l us).flatten) (h5:∀r ∈ nfR l us,Five r) (hu:∀(j:Nat) t,l[j]? = some t->∃q c,us[j]? = some (.slice q t.cs.length c)):∃p cap,v=.slice p l.length cap/\RdT w p l us:=by
 rcases ownsRow_cases h with⟨h1,h2⟩ | ⟨g,cap,h1,_⟩
 ·refine⟨none,0,by rw[h1,h2],fun j t ht=>?_⟩
  rw[List.length_eq_zero_iff.1 h2]at ht
  simp at ht
 ·subst h1
  refine⟨some (g,0),cap,rfl,fun j t ht=>?_⟩
  obtain⟨q,c,hv⟩:=hu j t ht
  have key:∀k u,k < 5->(nfC t (.slice q t.cs.length c))[k]? = some u->w.cell? ⟨g,j * 5+k,none⟩=some u:=fun k u hk hx=>by
   have:=h.cells (g:=g) rfl (j * 5+k) u (by rw[flat_get h5 j k hk,nfR_get ht hv];exact hx)
   rw[tadd,Nat.zero_add]at this
   exact this
  exact⟨g,q,c,rfl,hv,key 0 _ (by omega) rfl,key 1 _ (by omega) rfl,key 2 _ (by omega) rfl,key 3 _ (by omega) rfl,key 4 _ (by omega) rfl⟩
theorem Tryz.infoRn:(Tryz.prog.info? 149).map (fun i=>(i.zero,i.size,i.bytes))=some (some (.agg #[.int .i64 0,.int .i64 0,.int .i64 0,.bool false,.slice none 0 0]),5,56):=by kernel_rfl
theorem bnotes_any (p:Option Addr) (cap:Nat) (l:List Nf) (us:List Value) (w:World) (A:RdT w p l us) (hus:us.length=l.length) (h5:∀r ∈ nfR l us,Five r) (hn:l.length<=200) :
  Calls Tryz.prog 33 #[.slice p l.length cap] w fun e w'=>(∃p' c',e=.returned (.slice p' l.length c')/\RdT w' p' l us)/\Below w w w':=by
 have HA:Hid (RdT w p l us):=A
 have HU:Hid (us.length=l.length/\∀r ∈ nfR l us,Five r):=⟨hus,h5⟩
 have n0:(l.length:Int)<=200:=by omega
 obtain⟨q0,hi,hz0,hz1,hz2⟩:=info_parts Tryz.infoRn
 clear A hus h5
 go_enter Tryz.func33,Tryz.ntmps33
 go_wp2_with fail
 go_loopw [3,4] (fun v t wr=>∃j:Nat,j<=l.length/\t=.int .i64 j/\wr.ownsRow w 149 5 v j ((nfR l us).take j).flatten/\Below w w wr) (fun _ t _=>l.length - (intOf t).toNat)
 case atStart=>exact⟨0,by omega,rfl,World.ownsRow_nil _ _ _ _,Below.refl _ _⟩
 case round =>
  obtain⟨j,hj,rfl,hown,hbr⟩:=hrel
  have HO:Hid (wr.ownsRow w 149 5 u3 j ((nfR l us).take j).flatten):=hown
  have HB:Hid (Below w w wr):=hbr
  clear hown hbr
  by_cases hlt:j < l.length
  ·obtain⟨t,ht⟩:∃t,l[j]? = some t:=⟨_,List.getElem?_eq_getElem hlt⟩
   obtain⟨g1,q,c,rfl,hv,a0,a1,a2,a3,a4⟩:=HA.out j t ht
   have i0:(0:Int)<=(j:Int):=by omega
   have i1:(j:Int) < (l.length:Int):=by omega
   have HTK:Hid (((nfR l us).take (j+1)).flatten=((nfR l us).take j).flatten++nfC t (.slice q t.cs.length c)):=nfR_step ht hv
   obtain⟨p3,c3,rfl⟩:∃p3 c3,u3=.slice p3 j c3:=by
    rcases ownsRow_cases HO with⟨e,e0⟩ | ⟨g',c',e,_⟩
    ·exact⟨none,0,by rw[e,e0]⟩
    ·exact⟨_,_,e⟩
   have HBD:Hid (Below wr wr (wr.drew.alloc (.cells #[t.fr,t.li,t.ep,.bool t.cl,.slice q t.cs.length c] 149))):=t2 (Below.refl _ _).drew (aB _ _)
   have HOD:Hid ((wr.drew.alloc (.cells #[t.fr,t.li,t.ep,.bool t.cl,.slice q t.cs.length c] 149)).ownsRow w 149 5 (.slice p3 j c3) j ((nfR l us).take j).flatten):=owns_chgL HO (ChgL.of (l:=[]) HBD) (by simp)
   have HSZ:Hid (w.heap.size<=(wr.drew.alloc (.cells #[t.fr,t.li,t.ep,.bool t.cl,.slice q t.cs.length c] 149)).heap.size):=Nat.le_trans HB.size HBD.size
   have N1:Hid (∀u ∈ nfC t (.slice q t.cs.length c),u.oneCell'=true):=fun u hu=>by
    simp only[nfC,List.mem_cons,List.not_mem_nil,or_false]at hu
    rcases hu with rfl | rfl | rfl | rfl | rfl <;> rfl
   obtain⟨v5,w5,hr,hO5,hg5,_,_⟩:=run_append_own_at (P := Tryz.prog) (wr.drew.alloc (.cells #[t.fr,t.li,t.ep,.bool t.cl,.slice q t.cs.length c] 149)) w 68 68 149 q0 _ 5 56 Tryz.underlying68 hi hz0 hz1 hz2 rfl (by decide) (.slice p3 j c3) j ((nfR l us).take j).flatten HOD ⟨wr.heap.size,0,none⟩ 1 1 (nfC t (.slice q t.cs.length c)) rfl (five_ats wr.drew t _) N1 (by unfold maxLen;omega) (by omega) HSZ
   have O5:Hid (w5.ownsRow w 149 5 v5 (j+1) ((nfR l us).take (j+1)).flatten):=(by rw[<- HTK.out]at hO5;exact hO5)
   have B5:Hid (Below w w w5):=(t2 HB HBD).grown hg5 HSZ (fun q hq=>(HO.lt _ hq).1)
   have s0:wr.drew.cell? (g1,j * 5)=t.fr/\wr.drew.cell? (g1,j * 5+1)=t.li/\wr.drew.cell? (g1,j * 5+2)=t.ep/\wr.drew.cell? (g1,j * 5+3)=some (.bool t.cl)/\wr.drew.cell? (g1,j * 5+4)=some (.slice q t.cs.length c):=⟨tk HB.drew a0,tk HB.drew a1,tk HB.drew a2,tk HB.drew a3,tk HB.drew a4⟩
   have hb1:=t2 HB HBD
   have s1:(wr.drew.alloc (.cells #[t.fr,t.li,t.ep,.bool t.cl,.slice q t.cs.length c] 149)).cell? (g1,j * 5)=t.fr/\(wr.drew.alloc (.cells #[t.fr,t.li,t.ep,.bool t.cl,.slice q t.cs.length c] 149)).cell? (g1,j * 5+1)=t.li/\(wr.drew.alloc (.cells #[t.fr,t.li,t.ep,.bool t.cl,.slice q t.cs.length c] 149)).cell? (g1,j * 5+2)=t.ep/\(wr.drew.alloc (.cells #[t.fr,t.li,t.ep,.bool t.cl,.slice q t.cs.length c] 149)).cell? (g1,j * 5+3)=some (.bool t.cl)/\(wr.drew.alloc (.cells #[t.fr,t.li,t.ep,.bool t.cl,.slice q t.cs.length c] 149)).cell? (g1,j * 5+4)=some (.slice q t.cs.length c):=⟨tk hb1 a0,tk hb1 a1,tk hb1 a2,tk hb1 a3,tk hb1 a4⟩
   have s2:w5.cell? (g1,j * 5)=t.fr/\w5.cell? (g1,j * 5+1)=t.li/\w5.cell? (g1,j * 5+2)=t.ep/\w5.cell? (g1,j * 5+3)=some (.bool t.cl)/\w5.cell? (g1,j * 5+4)=some (.slice q t.cs.length c):=⟨tk B5 a0,tk B5 a1,tk B5 a2,tk B5 a3,tk B5 a4⟩
   clear ht hv HA hO5 hg5 a0 a1 a2 a3 a4 hb1
   go_wp2_with fail
   go_region_held3 (fun w'=>w'.cell? (g1,j * 5)=t.fr/\w'.cell? (g1,j * 5+1)=t.li/\w'.cell? (g1,j * 5+2)=t.ep/\w'.cell? (g1,j * 5+3)=some (.bool t.cl)/\w'.cell? (g1,j * 5+4)=some (.slice q t.cs.length c)) (first | exact s0 | exact s1 | exact s2) (first | (refine Eq.mpr (if_pos (by kernel_rfl)) ?_;refine wp_append_eq (Operand.tmp 11) (Operand.tmp 38) 68 rfl _ _ _ w5 rfl rfl hr ?_))
   all_goals
    go_wp2_with fail
    go_roundw
    case rel=>exact⟨j+1,by omega,by go_num,O5,B5⟩
    case measure=>simp[intOf];omega
  ·obtain rfl:j=l.length:=by omega
   have HF:Hid (∃p' c',u3=.slice p' l.length c'/\RdT wr p' l us):=by
    refine own_nts (B:=w.heap.size) (e := 149) ?_ HU.2 (fun j t ht=>?_)
    ·have:=HO.out
     rw[List.take_of_length_le (by rw[nfR_len HU.1];exact Nat.le_refl _)]at this
     exact this
    ·obtain⟨_,q,c,_,hv,_⟩:=HA.out j t ht
     exact⟨q,c,hv⟩
   obtain⟨p',c',rfl,hrd⟩:=HF.out
   go_wp2_with fail
   go_ret
   exact⟨⟨_,_,rfl,hrd⟩,HB⟩
end
end Go.Proofs.YtdpmeoflgpaljaaGreatDoor
