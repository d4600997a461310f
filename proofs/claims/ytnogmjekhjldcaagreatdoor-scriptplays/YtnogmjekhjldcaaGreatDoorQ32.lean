/-
  What the claimed theorem reaches, part Q32.
-/
import Derived.Test.YtnogmjekhjldcaaGreatDoorQ31
namespace Go.Proofs.YtnogmjekhjldcaaGreatDoor
open Go.RowKit Go.Proofs.Tryz
set_option maxRecDepth 100000
set_option maxHeartbeats 8000000
theorem block_lt {w:World} {a:Addr} {v:Value} (e:w.cell? a=some v):a.block < w.heap.size:=by
 rcases dX a.block w.heap.size with h | h
 ·exact h
 ·simp[World.cell?,Array.getElem?_eq_none h]at e
theorem aS {w w':World} (h:Below w.heap.size w w') {a:Addr} {v:Value} (e:w.cell? a=some v):w'.cell? a=some v:=by
 rw[h.cell (p:=a) (block_lt e)];exact e
section
variable {w:World} {s:Nat->Addr}
theorem oG {w':World} (h:Below w.heap.size w w') {a:Addr} {v:Value} (e:w.cell? a=some v):w'.frozen? a=w.frozen? a:=h.frozen (p:=a) (block_lt e)
def etW:Nat->List UInt8
 | 0=>[116,101,120,116]
 | 1=>[98,111,117,110,100]
 | 2=>[115,104,97,112,101]
 | 3=>[110,111,110,101]
 | 4=>[101,120,105,115,116]
 | 5=>[102,117,108,108]
 | 6=>[111,102,102]
 | 7=>[100,101,110,121]
 | 8=>[115,116,97,116,101]
 | 9=>[111,108,100]
 | _=>[104,101,108,100]
def etx (i:Nat):ByteArray:=⟨([116,119,105,110,114,97,109,112,97,114,116,58,32]++etW i).toArray⟩
structure Af (w:World) (s:Nat->Addr):Prop where
 c0:w.cell? ⟨1,0,none⟩=some (.iface 359 (.pointer (some (s 0))))
 m:jm w s
 tx:∀i,i < 11->w.cell? (s i)=some (.string (etx i))
theorem Af.below {w':World} (S:Af w s) (a:Below w.heap.size w w'):Af w' s:=⟨aS a S.c0,S.m.below a,fun i e=>aS a (S.tx i e)⟩
theorem Af.sen (S:Af w s):Bf w s:=⟨S.m.c1,S.m.c2⟩
theorem Af.c1 (S:Af w s):w.cell? ⟨0,0,none⟩=some (.iface 359 (.pointer (some (s 1)))):=S.m.c1
theorem Af.c2 (S:Af w s):w.cell? ⟨7,0,none⟩=some (.iface 359 (.pointer (some (s 2)))):=S.m.c2
end
def ahA:ByteArray:=⟨#[117,100,112]⟩
def ahB:ByteArray:=⟨#[116,99,112]⟩
theorem iF (w:World):Calls prog 189 #[.int .i64 1] w fun e w'=>e=.returned (.string ⟨#[117,100,112]⟩)/\w'=w:=by
 go_enter func189,ntmps189;go_wp2
 go_ret;exact⟨rfl,rfl⟩
theorem iG (w:World):Calls prog 189 #[.int .i64 2] w fun e w'=>e=.returned (.string ⟨#[116,99,112]⟩)/\w'=w:=by
 go_enter func189,ntmps189;go_wp2
 go_ret;exact⟨rfl,rfl⟩
theorem qh (a p:Int) (h:jc a p) (w:World) (T:Pow w) :
  Calls prog 191 #[.agg #[.int .i64 a,.int .i64 p]] w fun e w'=>e=.returned (.string ⟨(Lib.itoa a++58::Lib.itoa p).toArray⟩)/\Below w.heap.size w w':=by
 obtain⟨m,o,q,s⟩:=h;have k:Hid (Pow w):=T;have u:=eu m om;have y:=eu (show 0<=p by omega) om;clear T;go_enter func191,ntmps191;go_wp2_with fail;go_region_with (first
  | (go_at_call_of 96 (Value.int IntKind.i64 a);refine(lK a om om _ ?_).mono ?_;exact k.out.below (by repeat (first | exact aH _ _ | refine qZ ?_ | refine Below.alloc ?_ nL _));rintro e l ⟨rfl,i⟩;have z:l.cell? ⟨w.heap.size,1,none⟩=some (.int .i64 p):=(aS i (by simp[go_sem]));have f:Hid (Below w.heap.size w l):=(Below.trans (by repeat (first | exact aH _ _ | refine qZ ?_ | refine Below.alloc ?_ nL _)) (i.mono (by simp[go_sem])));clear i)
  | (go_at_call_of 96 (Value.int IntKind.i64 p);refine(lK p om om _ ?_).mono ?_;exact k.out.below f.out;rintro e w2 ⟨rfl,i⟩;have j:Hid (Below w.heap.size w w2):=f.out.trans (i.mono f.out.size);clear i))
 all_goals go_wp2_with fail
 all_goals go_ret
 all_goals refine⟨?_,j.out⟩
 all_goals exact dP (fun x:ByteArray=>Ending.returned (.string x)) (by apply jB;simp[ByteArray.data_append])
abbrev nmA:Array Value:=#[.string ⟨#[115,121,110]⟩,.string ⟨#[97,99,107]⟩,.string ⟨#[102,105,110]⟩,.string ⟨#[114,115,116]⟩]
def nm (k:Nat):ByteArray:=[(⟨#[115,121,110]⟩:ByteArray),⟨#[97,99,107]⟩,⟨#[102,105,110]⟩,⟨#[114,115,116]⟩].getD k ⟨#[]⟩
def Oh (w:World):Prop:=w.cell? ⟨9,0,none⟩=some (.string ⟨#[115,121,110]⟩)/\w.cell? ⟨9,1,none⟩=some (.string ⟨#[97,99,107]⟩)/\w.cell? ⟨9,2,none⟩=some (.string ⟨#[102,105,110]⟩)/\w.cell? ⟨9,3,none⟩=some (.string ⟨#[114,115,116]⟩)
theorem Oh.below {w w':World} (T:Oh w) (h:Below w.heap.size w w'):Oh w':=⟨aS h T.1,aS h T.2.1,aS h T.2.2.1,aS h T.2.2.2⟩
theorem Tryz.aev (w:World):(Instr.index 294 (.agg nmA) (.int .i64 0)).run prog w=.ok (.string (nm 0)) w:=by kernel_rfl
theorem Tryz.aew (w:World):(Instr.index 294 (.agg nmA) (.int .i64 1)).run prog w=.ok (.string (nm 1)) w:=by kernel_rfl
theorem Tryz.aex (w:World):(Instr.index 294 (.agg nmA) (.int .i64 2)).run prog w=.ok (.string (nm 2)) w:=by kernel_rfl
theorem Tryz.aey (w:World):(Instr.index 294 (.agg nmA) (.int .i64 3)).run prog w=.ok (.string (nm 3)) w:=by kernel_rfl
theorem Tryz.ahm (k:Nat) (h:k < 4) (w:World):(Instr.index 294 (.agg nmA) (.int .i64 k)).run prog w=.ok (.string (nm k)) w:=by
 match k,h with
 | 0,_=>exact Tryz.aev w
 | 1,_=>exact Tryz.aew w
 | 2,_=>exact Tryz.aex w
 | 3,_=>exact Tryz.aey w
theorem Tryz.SQ:(prog.info? 9).map (fun i=>(i.zero,i.size,i.bytes))=some (some (.string ByteArray.empty),1,16):=by kernel_rfl
def fb (a:Int) (k:Nat):Bool:=a / 2 ^ k % 2==1
theorem afx (e:Int) (f:0<=e) (j:e<=15) (k:Nat) (i:k < 4):(bits BinOp.and IntKind.i64 e (wrap64 (2 ^ k)) != 0)=fb e k:=by
 have h:∀(a:Fin 16) (b:Fin 4),(bits BinOp.and IntKind.i64 (a.val:Int) (wrap64 (2 ^ b.val)) != 0)=fb (a.val:Int) b.val:=by decide +kernel
 obtain⟨n,rfl⟩:=JD f;exact h ⟨n,by omega⟩ ⟨k,i⟩
def dK (a:Int):Nat->List ByteArray
 | 0=>[]
 | k+1=>if fb a k then dK a k++[nm k] else dK a k
theorem zJ (a:Int):∀k,(dK a k).length<=k
 | 0=>Nat.le_refl _
 | k+1=>by
  have:=zJ a k;unfold dK;split <;> simp <;> omega
def fText (a:Int):List UInt8:=if dK a 4=[] then [45] else Lib.join ((dK a 4).map (·.data.toList)) [43]
theorem Ht (e:Int) (f:0<=e) (i:e<=15):(fText e).length<=20:=by
 have h:∀(a:Fin 16),(fText (a.val:Int)).length<=20:=by decide +kernel
 obtain⟨n,rfl⟩:=JD f;exact h ⟨n,by omega⟩
theorem VO (e:Int) (f:0<=e) (i:e<=15):(Lib.join ((dK e 4).map (·.data.toList)) [43]).length<=20:=by
 have h:∀(a:Fin 16),(Lib.join ((dK (a.val:Int) 4).map (·.data.toList)) [43]).length<=20:=by decide +kernel
 obtain⟨n,rfl⟩:=JD f;exact h ⟨n,by omega⟩
theorem adG {w wr w1:World} {v v':Value} {a:Int} {k:Nat} (i:fb a k=true) (f:wr.ownsRow w.heap.size 9 1 v (dK a k).length ((dK a k).map Value.string)) (h:Below w.heap.size w wr)
  (l:w1.ownsRow w.heap.size 9 1 v' ((dK a k).length+1) ((dK a k).map Value.string++[.string (nm k)])) (m:(wr.alloc (.cells #[.string (nm k)] 9)).grownBy w1 v.ownBlock) :
  w1.ownsRow w.heap.size 9 1 v' (dK a (k+1)).length ((dK a (k+1)).map Value.string)/\Below w.heap.size w w1:=by
 refine⟨?_,(h.alloc h.size _).grown m (by have:=h.size;simp;omega) (fun j o=>(f.lt _ o).1)⟩;have e:dK a (k+1)=dK a k++[nm k]:=by simp[dK,i]
 rw[e];simpa using l
theorem FM (a:Int) (S:0<=a) (U:a<=15) (w:World) (T:Oh w) :
  Calls prog 192 #[.int .i64 a] w fun e w'=>e=.returned (.string ⟨(fText a).toArray⟩)/\Below w.heap.size w w':=by
 obtain⟨t0,t1,t2,t3⟩:=T;obtain⟨i0,hi,H,I,J⟩:=lu Tryz.SQ;go_enter func192,ntmps192;go_wp2_with fail;clear t0 t1 t2 t3;go_loopw [3,7] (fun v t wr=>∃k:Nat,k<=4/\t=.int .i64 k/\wr.ownsRow w.heap.size 9 1 v (dK a k).length ((dK a k).map Value.string)/\Below w.heap.size w wr) (fun _ t _=>4 - (intOf t).toNat)
 case atStart=>exact⟨0,by omega,rfl,ql _ _ _ _,aH _ _⟩
 case round =>
  obtain⟨k,hk,rfl,f,z⟩:=hrel;by_cases C:k < 4
  ·have ix := Tryz.ahm k C;have q:=afx a S U k C;have V:=zJ a k
   cases A:fb a k
   ·rw[A]at q;have e:dK a (k+1)=dK a k:=by simp[dK,A]
    have G:Hid (wr.ownsRow w.heap.size 9 1 u3 (dK a (k+1)).length ((dK a (k+1)).map Value.string)):=by rw[e];exact f
    have s:Hid (Below w.heap.size w wr):=z;clear f z e A;go_wp2_with fail;go_roundw
    case rel=>exact⟨k+1,by omega,by go_num,G.out,s.out⟩
    case measure=>simp[intOf];omega
   ·rw[A]at q;have G:Hid (wr.ownsRow w.heap.size 9 1 u3 (dK a k).length ((dK a k).map Value.string)):=f;have s:Hid (Below w.heap.size w wr):=z;have HF:Hid (fb a k=true):=A;clear f z A;go_wp2_with (at_builtin;refine vw _ rfl _ _ 28 rfl w.heap.size 9 i0 (.string ByteArray.empty) 1 16 Tryz.underlying28 hi H I J rfl dC _ _ _ rfl (G.out.alloc _) ⟨wr.heap.size,0,none⟩ 1 1 [.string (nm k)] rfl rfl ?c1 ?c2 ?c3 ?c4 ?c5 ?_)
    case c1 =>
     intro j u D;match j,D with
     | 0,D=>simp at D;subst D;simp[Addr.add]
    case c2=>intro u W;simp at W;subst W;rfl
    case c3=>unfold maxLen;omega
    case c4=>omega
    case c5=>have:=s.out.size;simp;omega
    intro v' X l m _;have R:=adG HF.out G.out s.out l m;have Y:Hid (X.ownsRow w.heap.size 9 1 v' (dK a (k+1)).length ((dK a (k+1)).map Value.string)/\Below w.heap.size w X):=R;clear l m R;go_wp2_with fail;go_roundw
    case rel=>exact⟨k+1,by omega,by go_num,Y.out.1,Y.out.2⟩
    case measure=>simp[intOf];omega
  ·obtain rfl:k=4:=by omega
   have s:Hid (Below w.heap.size w wr):=z;have V:=zJ a 4;obtain⟨y,o⟩:=f;by_cases B:dK a 4=[]
   ·have e:fText a=[45]:=by unfold fText;rw[aj B]
    have K:∃b c,u3=.slice b 0 c:=by
     rcases o with⟨h,_⟩ | ⟨g,cap,cur,h,_⟩
     ·exact⟨_,_,h⟩
     ·exact⟨_,_,by rw[h,B];rfl⟩
    obtain⟨b,c,Z⟩:=K;have L:Hid (fText a=[45]):=e;rw[Z];clear z y o B e Z V;go_wp2_with fail;go_ret;refine⟨?_,s.out⟩;rw[L.out];rfl
   ·have e:fText a=Lib.join ((dK a 4).map (·.data.toList)) [43]:=by unfold fText;rw[ak B]
    have D:=VO a S U;have Zg:1<=(dK a 4).length:=by
     rcases hn:dK a 4 with _ | ⟨x,r⟩
     ·exact absurd hn B
     ·simp
    rcases o with⟨_,h⟩ | ⟨g,cap,cur,h,hg1,hg2,hg3,hg4,hg5,hg6⟩
    ·omega
    have L:Hid (fText a=Lib.join ((dK a 4).map (·.data.toList)) [43]):=e;have i:∀(j:Nat) x,(dK a 4)[j]? = some x->wr.cell? ⟨g,0+j,none⟩=some (.string x):=by
     intro j x hx;have p:((dK a 4).map Value.string)[j]? = some (.string x):=by rw[kK,hx];rfl
     rw[<- hg6]at p;rw[fE];have E:cur[j]? = some (.string x):=by
      rw[kG]at p;split at p
      ·simpa using p
      ·cases p
     simp[World.cell?,hg2,E]
    have HC:Hid (∀(j:Nat) x,(dK a 4)[j]? = some x->wr.cell? ⟨g,0+j,none⟩=some (.string x)):=i;have M:Hid (g < wr.heap.size):=by
     rcases dX g wr.heap.size with O | O
     ·exact O
     ·simp[Array.getElem?_eq_none O]at hg2
    have Zh:(dK a 4).length<=cap:=hg3;rw[h];generalize hN:(dK a 4).length=N at *;have P:Hid ((dK a 4).length=N):=hN;have Zi:((N:Int)==0)=false:=dG.2 om;clear z y B e h hg1 hg2 hg4 hg5 hg6 i hN;go_wp2_with fail;have hJ := Tryz.strings_Join g 0 cap (dK a 4) ⟨#[43]⟩ wr HC.out M.out (by have:=P.out;omega) (by have:=P.out;omega) (by show(Lib.join _ [43]).length<=_;omega);rw[P.out]at hJ;refine hJ.mono ?_;rintro e w2 ⟨rfl,F⟩;have Q:Hid (Below w.heap.size w w2):=s.out.trans (F.mono s.out.size);clear F;go_wp2_with fail;go_ret;refine⟨?_,Q.out⟩;rw[L.out];rfl
structure Jm (w:World) (b:Nat) (pr a1 p1 a2 p2 fl:Int):Prop where
 c0:w.cell? ⟨b,0,none⟩=some (.int .i64 pr)
 c1:w.cell? ⟨b,1,none⟩=some (.int .i64 a1)
 c2:w.cell? ⟨b,2,none⟩=some (.int .i64 p1)
 c3:w.cell? ⟨b,3,none⟩=some (.int .i64 a2)
 c4:w.cell? ⟨b,4,none⟩=some (.int .i64 p2)
 c5:w.cell? ⟨b,5,none⟩=some (.int .i64 fl)
theorem Jm.below {w w':World} {b:Nat} {a e f i j fl:Int} (k:Jm w b a e f i j fl) (h:Below w.heap.size w w'):Jm w' b a e f i j fl :=
 ⟨aS h k.c0,aS h k.c1,aS h k.c2,aS h k.c3,aS h k.c4,aS h k.c5⟩
theorem Ag (w:World) (m:Nat):Below w.heap.size w (w.drewN m):=⟨rfl,rfl,rfl,bJ _,fun _ _=>rfl⟩
theorem aZ {w a b:World} (h:Below w.heap.size w a) (k:Below a.heap.size a b):Below w.heap.size w b:=h.trans (k.mono h.size)
structure Env (w:World) (s:Nat->Addr):Prop where
 s:Af w s
 p:Pow w
 n:Oh w
theorem Env.below {w w':World} {s:Nat->Addr} (E:Env w s) (h:Below w.heap.size w w'):Env w' s:=⟨E.s.below h,E.p.below h,E.n.below h⟩
def uq (a p:Int):List UInt8:=Lib.itoa a++58::Lib.itoa p
theorem MX {a p:Int} (h:jc a p):(uq a p).length<=15:=by
 have e:=eu h.1 (by have:=h.2.1;omega);have f:=eu (show 0<=p by have:=h.2.2.1;omega) (by have:=h.2.2.2;omega);simp[uq];omega
def iT (a e f h i j:Int):List UInt8 :=
 (if a=1 then [117,100,112] else [116,99,112])++32::(uq e f++32::(uq h i++if a=2 then 32::fText j else []))
theorem Jo (M l m o q u:Int) (s:Nat->Addr) (w:World) (E:Env w s) (h:sK M l m o q u) :
  Calls prog 152 #[pkt M l m o q u] w fun e w'=>e=.returned (.tuple #[.string ⟨(iT M l m o q u).toArray⟩,.nilIface])/\Below w.heap.size w w':=by
 have F:=jH E;obtain⟨Y,P,Q,R,S⟩:=h;have Z:=jH Y;have T:=jH P;have U:=jH Q;have H4:Hid (0<=u):=R;have H5:Hid (u<=15):=S;have l1:(Lib.itoa l++58::Lib.itoa m).length<=15:=MX P;have l2:(Lib.itoa o++58::Lib.itoa q).length<=15:=MX Q;have l3:=Ht u R S;generalize H:Lib.itoa l++58::Lib.itoa m=t1 at l1;generalize I:Lib.itoa o++58::Lib.itoa q=t2 at l2;generalize J:fText u=t3 at l3;have y:Hid (Lib.itoa l++58::Lib.itoa m=t1):=H;have z:Hid (Lib.itoa o++58::Lib.itoa q=t2):=I;have K:Hid (fText u=t3):=J;clear E Y P Q R S H I J;go_enter func152,ntmps152;go_wp2_with fail;refine jM (KP _ _ _ _ _ _ s _ (F.out.s.below ((aH _ _).alloc nL _)).sen Z.out T.out U.out H4.out H5.out) fun w1 V=>?_;have N:Hid (Jm w1 w.heap.size M l m o q u):=by
  obtain⟨c0,c1,c2,c3,c4,c5⟩:=IU V;exact⟨c0,c1,c2,c3,c4,c5⟩
 have HB:Hid (Below w.heap.size w w1):=((aH _ _).alloc nL _).trans (V.mono sM);clear V;unfold nH;have i0 := Tryz.O0;have i1 := Tryz.O7;rcases Z.out with⟨rfl,rfl⟩ | rfl
 ·have G:=N.out.c0;go_wp2_with fail;refine jM (iF _) fun w2 B=>?_;subst B;go_wp2_with fail;refine jM (nG _ _ _) fun W a=>?_;have C:Hid (Jm W w.heap.size 1 l m o q 0):=N.out.below a;have j:Hid (Below w.heap.size w W):=aZ HB.out a;clear a G;go_wp2_with fail;refine lq 3 ?_;rw[bM];have k1:=C.out.c1;have k2:=C.out.c2;go_wp2_with fail;refine jM (qh _ _ T.out _ (F.out.p.below j.out)) fun w4 f=>?_;rw[y.out];have D:Hid (Jm w4 w.heap.size 1 l m o q 0):=C.out.below f;have k:Hid (Below w.heap.size w w4):=aZ j.out f;clear f k1 k2;have k1:=D.out.c3;have k2:=D.out.c4;go_wp2_with fail;rw[bM];go_wp2_with fail;refine jM (qh _ _ U.out _ (F.out.p.below k.out)) fun w5 i=>?_;rw[z.out];have O:=jH (D.out.below i);have A:=jH (aZ k.out i);clear i k1 k2;have G:=O.out.c0;go_wp2_with fail;rw[bM];go_wp2_with fail;go_ret2;refine⟨?_,A.out⟩;exact dP (fun x:ByteArray=>Ending.returned (.tuple #[.string x,.nilIface])) (by apply jB;simp[ByteArray.data_append,iT,uq,<- y.out,<- z.out])
 ·have G:=N.out.c0;go_wp2_with fail;refine jM (iG _) fun w2 B=>?_;subst B;go_wp2_with fail;refine jM (nG _ _ _) fun W a=>?_;have C:=jH (N.out.below a);have j:=jH (aZ HB.out a);clear a G;go_wp2_with fail;refine lq 3 ?_;rw[bM];have k1:=C.out.c1;have k2:=C.out.c2;go_wp2_with fail;refine jM (qh _ _ T.out _ (F.out.p.below j.out)) fun w4 f=>?_;rw[y.out];have D:=jH (C.out.below f);have k:=jH (aZ j.out f);clear f k1 k2;have k1:=D.out.c3;have k2:=D.out.c4;go_wp2_with fail;rw[bM];go_wp2_with fail;refine jM (qh _ _ U.out _ (F.out.p.below k.out)) fun w5 i=>?_;rw[z.out];have O:=jH (D.out.below i);have A:=jH (aZ k.out i);clear i k1 k2;have G:=O.out.c0;have k5:=O.out.c5;go_wp2_with fail;rw[bM];go_wp2_with fail;refine jM (FM _ H4.out H5.out _ (F.out.n.below A.out)) fun w6 L=>?_;rw[K.out];have X:=jH (aZ A.out L);clear L G k5;go_wp2_with fail;go_ret2;refine⟨?_,X.out⟩;exact dP (fun x:ByteArray=>Ending.returned (.tuple #[.string x,.nilIface])) (by apply jB;simp[ByteArray.data_append,iT,uq,<- y.out,<- z.out,<- K.out])
theorem MZ (k:Nat) (a f h i j l:Int) (s:Nat->Addr) (w:World) (m:∀w,Af w s->Calls prog 188 #[pkt a f h i j l] w fun e w'=>e=.returned (nH s (k+1))/\Below w.heap.size w w') (S:Af w s) :
  Calls prog 152 #[pkt a f h i j l] w fun e w'=>e=.returned (.tuple #[.string ⟨#[]⟩,nH s (k+1)])/\Below w.heap.size w w':=by
 have p:=jH m;have q:=jH S;clear S m;unfold nH;go_enter func152,ntmps152;go_wp2_with fail;refine jM (p.out _ (q.out.below ((aH _ _).alloc nL _))) fun x o=>?_;have u:=jH (((aH _ _).alloc nL _).trans (o.mono sM));clear o;unfold nH;go_wp2_with fail;go_ret2;exact⟨rfl,u.out⟩
def sN (x:ByteArray):Int:=if x=nm 0 then 1 else if x=nm 1 then 2 else if x=nm 2 then 4 else if x=nm 3 then 8 else 0
theorem Ah {a b:ByteArray} (h:¬b=a):(a.toList==b.toList)=false:=by
 rw[dG];intro e;apply h;apply jB;have:=dP List.toArray e;simpa [ByteArray.toList_eq] using this.symm
theorem ba_eq (a:ByteArray):(a.toList==a.toList)=true:=beq_self_eq_true _
theorem Na (x:ByteArray) (w:World) (T:Oh w) :
  Calls prog 284 #[.string x] w fun e w'=>e=.returned (.int .i64 (sN x))/\w'=w:=by
 obtain⟨t0,m,t2,o⟩:=T;have p := Tryz.aev;have q := Tryz.aew;have s := Tryz.aex;have u := Tryz.aey;by_cases a:x=nm 0
 ·have e:sN x=1:=by simp[sN,a]
  rw[e,a];have s0:=ba_eq (nm 0);clear a e;go_enter func284,ntmps284;go_wp2_with fail;refine lq 5 ?_;rw[bM];go_wp2_with fail;go_ret;exact⟨rfl,rfl⟩
 ·have j:=Ah a;by_cases f:x=nm 1
  ·have e:sN x=2:=by rw[f];decide
   rw[e];rw[f]at j ⊢;have s0:=ba_eq (nm 1);clear a f e;go_enter func284,ntmps284;go_wp2_with fail;refine lq 5 ?_;rw[bM];go_wp2_with fail;rw[bM];go_wp2_with fail;go_ret;exact⟨rfl,rfl⟩
  ·have k:=Ah f;by_cases h:x=nm 2
   ·have e:sN x=4:=by rw[h];decide
    rw[e];rw[h]at j k ⊢;have s0:=ba_eq (nm 2);clear a f h e;go_enter func284,ntmps284;go_wp2_with fail;refine lq 5 ?_;rw[bM];go_wp2_with fail;rw[bM];go_wp2_with fail;rw[bM];go_wp2_with fail;go_ret;exact⟨rfl,rfl⟩
   ·have l:=Ah h;by_cases i:x=nm 3
    ·have e:sN x=8:=by rw[i];decide
     rw[e];rw[i]at j k l ⊢;have s0:=ba_eq (nm 3);clear a f h i e;go_enter func284,ntmps284;go_wp2_with fail;refine lq 5 ?_;rw[bM];go_wp2_with fail;rw[bM];go_wp2_with fail;rw[bM];go_wp2_with fail;rw[bM];go_wp2_with fail;go_ret;exact⟨rfl,rfl⟩
    ·have y:=Ah i;have e:sN x=0:=by simp[sN,a,f,h,i]
     rw[e];clear a f h i e;go_enter func284,ntmps284;go_wp2_with fail;refine lq 5 ?_;rw[bM];go_wp2_with fail;rw[bM];go_wp2_with fail;rw[bM];go_wp2_with fail;rw[bM];go_wp2_with fail;rw[bM];go_wp2_with fail;go_ret;exact⟨rfl,rfl⟩
theorem Nb (x:ByteArray) (i:x.size<=4000) (w:World) (L:jU w) :
  Calls prog 76 #[.string x,.string ⟨#[58]⟩] w fun e w'=>e=.returned (.tuple #[.string ⟨(Lib.cut x.data.toList [58]).1.toArray⟩,.string ⟨(Lib.cut x.data.toList [58]).2.1.toArray⟩,.bool (Lib.cut x.data.toList [58]).2.2])/\Below w.heap.size w w':=by
 obtain⟨m,a⟩:=L.ml;exact(Tryz.strings_Cut x ⟨#[58]⟩ m w om a).mono fun e w' ⟨f,n,h⟩=>⟨f,by rw[h];exact Ag _ _⟩
def pe (l:List UInt8):Option (Int×Int) :=
 if (Lib.cut l [58]).2.2 then
  match Lib.atoiAll (Lib.cut l [58]).1,Lib.atoiAll (Lib.cut l [58]).2.1 with
  | .ok u,.ok v=>some (u,v)
  | _,_=>none
 else none
theorem Hu (l:List UInt8):(Lib.cut l [58]).1.length<=l.length:=by unfold Lib.cut;split <;> simp <;> omega
theorem Hw (l:List UInt8):(Lib.cut l [58]).2.1.length<=l.length:=by unfold Lib.cut;split <;> simp <;> omega
theorem vT (x:ByteArray) (K:x.size<=4000) (h:pe x.data.toList=none) (p:Value) (w:World) (L:jU w) :
  Calls prog 246 #[.string x,p] w fun e w'=>e=.returned (.bool false)/\Below w.heap.size w w':=by
 have s:=jH L;clear L;have D:=Hu x.data.toList;have E:=Hw x.data.toList;have y:x.data.toList.length=x.size:=xC;unfold pe at h;go_enter func246,ntmps246;go_wp2_with fail;refine jM (Nb x K _ s.out) fun M o=>?_;generalize Lib.cut x.data.toList [58]=cc at *;obtain⟨c1,c2,c3⟩:=cc
 cases c3
 ·go_wp2_with fail;go_ret;exact⟨rfl,o.out⟩
 ·simp only[mV]at h;have F:(⟨c1.toArray⟩:ByteArray).size<=4000:=by simp[ByteArray.size];simp at D;omega
  have G:(⟨c2.toArray⟩:ByteArray).size<=4000:=by simp[ByteArray.size];simp at E;omega
  have H:=jH h;have I:=jH F;have z:=jH G;clear h F G D E y;by_cases i:∃u,Lib.atoiAll c1=.ok u
  ·obtain⟨u,i⟩:=i;have k:∀v,Lib.atoiAll c2≠.ok v:=fun v k=>by have:=H.out;rw[i,k]at this;cases this
   have A:=jH i;have B:=jH k;clear i k;go_wp2_with fail;refine jM (rZ ⟨c1.toArray⟩ I.out u A.out _) fun w2 l=>?_;have j:=jH (aZ o.out l);clear l;go_wp2_with fail;refine(yC ⟨c2.toArray⟩ z.out B.out _ (s.out.below j.out)).mono ?_;rintro e J ⟨⟨n,t,a,rfl⟩,f⟩;have m:=jH (aZ j.out f);clear f;go_wp2_with fail;go_ret;exact⟨rfl,m.out⟩
  ·have k:∀v,Lib.atoiAll c1≠.ok v:=fun v k=>i ⟨v,k⟩;have B:=jH k;clear i k;go_wp2_with fail;refine(yC ⟨c1.toArray⟩ I.out B.out _ (s.out.below o.out)).mono ?_;rintro e w2 ⟨⟨n,t,a,rfl⟩,l⟩;have j:=jH (aZ o.out l);clear l;go_wp2_with fail;by_cases i:∃u,Lib.atoiAll c2=.ok u
   ·obtain⟨u,i⟩:=i;have A:=jH i;clear i;refine jM (rZ ⟨c2.toArray⟩ z.out u A.out _) fun J f=>?_;have m:=jH (aZ j.out f);clear f;go_wp2_with fail;go_ret;exact⟨rfl,m.out⟩
   ·have q:∀v,Lib.atoiAll c2≠.ok v:=fun v k=>i ⟨v,k⟩;have C:=jH q;clear i q;refine(yC ⟨c2.toArray⟩ z.out C.out _ (s.out.below j.out)).mono ?_;rintro e J ⟨⟨N,t2,O,rfl⟩,f⟩;have m:=jH (aZ j.out f);clear f;go_wp2_with fail;go_ret;exact⟨rfl,m.out⟩
theorem vU (x:ByteArray) (J:x.size<=4000) (u v:Int) (h:pe x.data.toList=some (u,v)) (b o:Nat) (w:World) (L:jU w) (K M:Value) (s:w.cell? ⟨b,o,none⟩=some K) (y:w.cell? ⟨b,o+1,none⟩=some M) (z:w.frozen? ⟨b,o,none⟩=false) (A:w.frozen? ⟨b,o+1,none⟩=false) :
  Calls prog 246 #[.string x,.pointer (some ⟨b,o,none⟩)] w fun e w'=>e=.returned (.bool true)/\∃k,Below w.heap.size w k/\w'=(k.setCell ⟨b,o,none⟩ (.int .i64 u)).setCell ⟨b,o+1,none⟩ (.int .i64 v):=by
 have N:=jH L;have B:=jH s;have C:=jH y;have O:=jH z;have P:=jH A;clear L s y z A;have D:=Hu x.data.toList;have E:=Hw x.data.toList;have l:x.data.toList.length=x.size:=xC;unfold pe at h;go_enter func246,ntmps246;go_wp2_with fail;refine jM (Nb x J _ N.out) fun k m=>?_;generalize Lib.cut x.data.toList [58]=cc at *;obtain⟨c1,c2,c3⟩:=cc
 cases c3
 ·simp at h
 ·simp only[mV]at h;have F:(⟨c1.toArray⟩:ByteArray).size<=4000:=by simp[ByteArray.size];simp at D;omega
  have G:(⟨c2.toArray⟩:ByteArray).size<=4000:=by simp[ByteArray.size];simp at E;omega
  have f:Lib.atoiAll c1=.ok u/\Lib.atoiAll c2=.ok v:=by
   split at h
   ·rename_i H Q;simp only[abV,Prod.mk.injEq]at h;rw[H,Q,h.1,h.2];exact⟨rfl,rfl⟩
   ·cases h
  have I:=jH f;have R:=jH F;have S:=jH G;clear h F G D E l f;go_wp2_with fail;refine jM (rZ ⟨c1.toArray⟩ R.out u I.out.1 _) fun w2 i=>?_;have p:=jH (aZ m.out i);clear i;go_wp2_with fail;refine jM (rZ ⟨c2.toArray⟩ S.out v I.out.2 _) fun q j=>?_;have a:=jH (aZ p.out j);have T:=aS a.out B.out;have U:=aS a.out C.out;have V:q.frozen? ⟨b,o,none⟩=false:=by rw[oG a.out B.out];exact O.out
  have H:q.frozen? ⟨b,o+1,none⟩=false:=by rw[oG a.out C.out];exact P.out
  clear j;go_wp2_with fail;go_ret;exact⟨rfl,q,a.out,rfl⟩
section
variable {w:World} {b:Nat} {f:Nat->Int}
structure Six (w:World) (b:Nat) (f:Nat->Int):Prop where
  c:∀j,j < 6->w.cell? ⟨b,j,none⟩=some (.int .i64 (f j))
  cf:∀j,j < 6->w.frozen? ⟨b,j,none⟩=false
theorem Six.below {w':World} (k:Six w b f) (h:Below w.heap.size w w'):Six w' b f :=
  ⟨fun j a=>aS h (k.c j a),fun j a=>by rw[oG h (k.c j a)];exact k.cf j a⟩
def EK (f:Nat->Int) (i:Nat) (v:Int) (j:Nat):Int:=if j=i then v else f j
theorem Six.set {i:Nat} (k:Six w b f) (h:i < 6) (v:Int):Six (w.setCell ⟨b,i,none⟩ (.int .i64 v)) b (EK f i v) :=
  ⟨fun j a=>by
    by_cases e:j=i
    · subst e;rw[BP _ _ _ (u:=.int .i64 (f j)) (k.c j a)];simp[EK]
    · rw[lT _ _ _ _ (by simp <;> omega),k.c j a];simp[EK,e],
   fun j a=>by rw[xB];exact k.cf j a⟩
theorem Six.other {p i:Nat} (k:Six w b f) (e:p≠b) (v:Value):Six (w.setCell ⟨p,i,none⟩ v) b f :=
  ⟨fun j a=>by rw[lT _ _ _ _ (by simp <;> omega)];exact k.c j a,fun j a=>by rw[xB];exact k.cf j a⟩
theorem vg (w:World) (t:TypeId):Six (w.alloc (.cells #[.int .i64 0,.int .i64 0,.int .i64 0,.int .i64 0,.int .i64 0,.int .i64 0] t)) w.heap.size (fun _=>0) :=
  ⟨fun j a=>by
    rw[World.cell?_alloc_at _ _ _ _ rfl];match j,a with
    | 0,_ | 1,_ | 2,_ | 3,_ | 4,_ | 5,_=>rfl,
   fun j a=>by rw[BQ _ _ _ _ rfl]⟩
end
section
variable {w:World} {b o:Nat} {r:Int}
def lN:List ByteArray->Int->Option Int
 | [],acc=>some acc
 | x::r,acc=>if sN x=0 then none else lN r (bits BinOp.or IntKind.i64 acc (sN x))
def pf (x:ByteArray):Option Int:=if x=⟨#[45]⟩ then some 0 else lN (words x 43) 0
theorem yG (l r:List ByteArray):∀a,lN (l++r) a=(lN l a).bind (lN r):=by
 induction l with
 | nil=>intro a;rfl
 | cons x l ih =>
  intro a;simp only[Ar,lN];split
  ·rfl
  ·exact ih _
structure Wr (w w':World) (b o:Nat) (r:Int):Prop where
 c:w'.cell? ⟨b,o,none⟩=some (.int .i64 r)
 f:w'.frozen? ⟨b,o,none⟩=false
 k:∀a:Addr,a.block < w.heap.size->a≠⟨b,o,none⟩->w'.cell? a=w.cell? a
 z:∀a:Addr,a.block < w.heap.size->w'.frozen? a=w.frozen? a
 g:w.grownBy w' (some b)
theorem Wr.set {w':World} (h:Wr w w' b o r) (q:Int):Wr w (w'.setCell ⟨b,o,none⟩ (.int .i64 q)) b o q where
 c:=BP _ _ _ h.c
 f:=by rw[xB];exact h.f
 k:=fun a j i=>by rw[lT _ _ _ _ (Ne.symm i)];exact h.k a j i
 z:=fun a j=>by rw[xB];exact h.z a j
 g:=⟨h.g.os,h.g.tape,h.g.output,by rw[World.size_setCell];exact h.g.size,fun k l i=>by rw[Below.heap_setCell _ _ _ _ (fun e=>i (by rw[e]))];exact h.g.block k l i⟩
theorem Wr.from {l w2:World} (e:Below w.heap.size w l) (h:Wr l w2 b o r):Wr w w2 b o r where
 c:=h.c
 f:=h.f
 k:=fun a i j=>(h.k a (ji i e.size) j).trans (e.cell i)
 z:=fun a i=>(h.z a (ji i e.size)).trans (e.frozen i)
 g:=⟨h.g.os.trans e.os,h.g.tape.trans e.tape,h.g.output.trans e.output,dL e.size h.g.size,fun k m j=>(h.g.block k (ji m e.size) j).trans (e.block k m)⟩
theorem take_cons (l:List ByteArray) (j:Nat) (h:j < l.length):l=l.take j++l[j]::l.drop (j+1):=by
 rw[List.getElem_cons_drop,abX]
theorem VP (l:List ByteArray) (j:Nat) (h:j < l.length) (a:Int) (e:lN (l.take j) 0=some a) (f:sN l[j]≠0):lN (l.take (j+1)) 0=some (bits BinOp.or IntKind.i64 a (sN l[j])):=by
 rw[Tz h,yG,e];simp[lN,f]
theorem VQ (l:List ByteArray) (j:Nat) (h:j < l.length) (a:Int) (e:lN (l.take j) 0=some a) (f:sN l[j]=0):lN l 0=none:=by
 rw[take_cons l j h,yG,e];simp[lN,f]
theorem Oh.wr {w':World} (T:Oh w) (h:Wr w w' b o r) (a : 9≠b):Oh w':=by
 have f:=block_lt T.1;have k:∀(j:Nat) v,w.cell? ⟨9,j,none⟩=some v->w'.cell? ⟨9,j,none⟩=some v:=fun j v i =>
  (h.k ⟨9,j,none⟩ f (fun e=>a (dP Addr.block e))).trans i
 exact⟨k _ _ T.1,k _ _ T.2.1,k _ _ T.2.2.1,k _ _ T.2.2.2⟩
theorem AU (b o:Nat) (w:World) :
  Calls prog 247 #[.string ⟨#[45]⟩,.pointer (some ⟨b,o,none⟩)] w fun e w'=>e=.returned (.bool true)/\w'=w:=by
 go_enter func247,ntmps247;go_wp2_with fail;go_ret;exact⟨rfl,rfl⟩
theorem EL (x:ByteArray) (N:x.size<=4000) (O:¬x=⟨#[45]⟩) (b o:Nat) (w:World) (L:jU w) (T:Oh w) (G:w.cell? ⟨b,o,none⟩=some (.int .i64 0)) (H:w.frozen? ⟨b,o,none⟩=false) (u : 9≠b) :
  Calls prog 247 #[.string x,.pointer (some ⟨b,o,none⟩)] w fun e w' =>
   (∃r,lN (words x 43) 0=some r/\e=.returned (.bool true)/\Wr w w' b o r)\/(lN (words x 43) 0=none/\e=.returned (.bool false)/\w.grownBy w' (some b)):=by
 have P:Hid (jU w):=L;have Q:Hid (Oh w):=T;have z:Hid (w.cell? ⟨b,o,none⟩=some (.int .i64 0)):=G;have R:Hid (w.frozen? ⟨b,o,none⟩=false):=H;have S:(x.toList==[45])=false:=by
  have:=Ah (a:=x) (b:=⟨#[45]⟩) (fun e=>O e.symm);simpa using this
 clear L T G H;go_enter func247,ntmps247;go_wp2_with fail;refine(qQ x N 43 _ P.out).mono ?_;rintro e w2 ⟨rfl,I,J⟩;have U:Hid (∀(j:Nat) y,(words x 43)[j]? = some y->w2.cell? ⟨w.heap.size,j,none⟩=some (.string y)):=I;have q:Hid (Below w.heap.size w w2):=J;have Z:(words x 43).length<=5000:=by have:=yD x 43;omega
 have V:b < w.heap.size:=block_lt z.out;have W:Hid (Wr w2 w2 b o 0):=⟨aS q.out z.out,by rw[oG q.out z.out];exact R.out,fun _ _ _=>rfl,fun _ _=>rfl,⟨rfl,rfl,rfl,bJ _,fun _ _ _=>rfl⟩⟩;clear I J;go_wp2_with fail;go_loopw [13] (fun t wr=>∃(j:Nat) (acc:Int),j<=(words x 43).length/\t=.int .i64 j/\lN ((words x 43).take j) 0=some acc/\Wr w2 wr b o acc) (fun t _=>(words x 43).length - (intOf t).toNat)
 case atStart=>exact⟨0,0,jY _,rfl,rfl,W.out⟩
 case round =>
  obtain⟨j,acc,hj,rfl,h,K⟩:=hrel;have A:Hid (lN ((words x 43).take j) 0=some acc):=h;have l:Hid (Wr w2 wr b o acc):=K;clear h K;by_cases m:j < (words x 43).length
  ·have B:wr.cell? ⟨w.heap.size,j,none⟩=some (.string (words x 43)[j]):=by
    have M:=U.out j _ (fD m);rw[l.out.k ⟨w.heap.size,j,none⟩ (block_lt M) (fun e=>by have:=dP Addr.block e;simp at this;omega)];exact M
   have X:=l.out.c;have Y:=l.out.f;go_wp2_with fail;refine(Na _ _ ((Q.out.below q.out).wr l.out u)).mono ?_;rintro e w3 ⟨rfl,C⟩;subst C;by_cases p:sN (words x 43)[j]=0
   ·have D:Hid (sN (words x 43)[j]=0):=p;have E:(sN (words x 43)[j]==0)=true:=xI.2 p;clear p;go_wp2_with fail;go_ret;exact .inr ⟨VQ _ j m acc A.out D.out,rfl,(l.out.from q.out).g⟩
   ·have D:Hid (sN (words x 43)[j]≠0):=p;have E:(sN (words x 43)[j]==0)=false:=dG.2 p;clear p;go_wp2_with fail;go_roundw
    case rel=>exact⟨j+1,_,by omega,by go_num,VP _ j m acc A.out D.out,l.out.set _⟩
    case measure=>simp[intOf];omega
  ·have F:j=(words x 43).length:=by omega
   have i:lN (words x 43) 0=some acc:=by
    have:=A.out;rw[vk om]at this;exact this
   have s:Hid (lN (words x 43) 0=some acc):=i;clear i F;go_wp2_with fail;go_ret;exact .inl ⟨acc,s.out,rfl,l.out.from q.out⟩
end
section
variable {w0 w w':World} {f:Nat->Int} {ws:List ByteArray}
def lQ (x:ByteArray):Option (Int×Int×Int×Int×Int×Int) :=
 match words x 32 with
 | [a,b,c]=>if a=⟨#[117,100,112]⟩ then (pe b.data.toList).bind fun s=>(pe c.data.toList).map fun d=>(1,s.1,s.2,d.1,d.2,0) else none
 | [a,b,c,f]=>if a=⟨#[116,99,112]⟩ then (pe b.data.toList).bind fun s=>(pe c.data.toList).bind fun d=>(pf f).map fun g=>(2,s.1,s.2,d.1,d.2,g) else none
 | _=>none
structure Nc (w0 w:World) (f:Nat->Int) (ws:List ByteArray):Prop where
 r:Six w w0.heap.size (fun _=>0)
 p:Six w (w0.heap.size+1) f
 c:∀(j:Nat) y,ws[j]? = some y->w.cell? ⟨w0.heap.size+1+1,j,none⟩=some (.string y)
 b:Below w0.heap.size w0 w
theorem Nc.below (d:Nc w0 w f ws) (h:Below w.heap.size w w'):Nc w0 w' f ws :=
 ⟨d.r.below h,d.p.below h,fun j y a=>aS h (d.c j y a),d.b.trans (h.mono d.b.size)⟩
theorem Nc.set {i:Nat} (d:Nc w0 w f ws) (a:i < 6) (v:Int):Nc w0 (w.setCell ⟨w0.heap.size+1,i,none⟩ (.int .i64 v)) (EK f i v) ws :=
 ⟨d.r.other om _,d.p.set a v,fun j y e=>by rw[lT _ _ _ _ sM];exact d.c j y e,d.b.setCell sM _⟩
theorem Nc.drewN (d:Nc w0 w f ws) (n:Nat):Nc w0 (w.drewN n) f ws:=d.below (Ag _ _)
theorem Nc.wr {r:Int} (d:Nc w0 w f ws) (h:Wr w w' (w0.heap.size+1) 5 r):Nc w0 w' (EK f 5 r) ws where
 r:=⟨fun j a=>(h.k ⟨w0.heap.size,j,none⟩ (block_lt (d.r.c j a)) (fun e=>by have:=dP Addr.block e;simp at this)).trans (d.r.c j a),fun j a=>(h.z ⟨w0.heap.size,j,none⟩ (block_lt (d.r.c j a))).trans (d.r.cf j a)⟩
 p:=⟨fun j a=>by
   by_cases e:j=5
   ·subst e;rw[h.c];simp[EK]
   ·rw[h.k ⟨w0.heap.size+1,j,none⟩ (block_lt (d.p.c j a)) (fun l=>e (dP Addr.off l)),d.p.c j a];simp[EK,e],
  fun j a=>(h.z ⟨w0.heap.size+1,j,none⟩ (block_lt (d.p.c j a))).trans (d.p.cf j a)⟩
 c:=fun j y i=>(h.k ⟨w0.heap.size+1+1,j,none⟩ (block_lt (d.c j y i)) (fun e=>by have:=dP Addr.block e;simp at this)).trans (d.c j y i)
 b:=d.b.grown h.g d.b.size (fun k m=>by cases m;omega)
theorem Nc.grown (d:Nc w0 w f ws) (h:w.grownBy w' (some (w0.heap.size+1))):Six w' w0.heap.size (fun _=>0)/\Below w0.heap.size w0 w':=by
 refine⟨⟨fun j a=>?_,fun j a=>?_⟩,d.b.grown h d.b.size (fun k e=>by cases e;omega)⟩
 ·rw[dV (w:=w) (h.block w0.heap.size (block_lt (d.r.c j a)) sM)];exact d.r.c j a
 ·rw[sO (w:=w) (h.block w0.heap.size (block_lt (d.r.c j a)) sM)];exact d.r.cf j a
theorem adH (w w2:World) (t a:TypeId) (ws:List ByteArray) (e:Below ((w.alloc (.cells #[.int .i64 0,.int .i64 0,.int .i64 0,.int .i64 0,.int .i64 0,.int .i64 0] t)).alloc (.cells #[.int .i64 0,.int .i64 0,.int .i64 0,.int .i64 0,.int .i64 0,.int .i64 0] a)).heap.size ((w.alloc (.cells #[.int .i64 0,.int .i64 0,.int .i64 0,.int .i64 0,.int .i64 0,.int .i64 0] t)).alloc (.cells #[.int .i64 0,.int .i64 0,.int .i64 0,.int .i64 0,.int .i64 0,.int .i64 0] a)) w2)
  (h:∀(j:Nat) y,ws[j]? = some y->w2.cell? ⟨w.heap.size+1+1,j,none⟩=some (.string y)):Nc w w2 (fun _=>0) ws:=by
 have b1:∀(v:World) (o:Obj),Below v.heap.size v (v.alloc o):=fun v o=>(aH _ _).alloc nL _;refine⟨((vg w t).below (b1 _ _)).below e,?_,h,aZ (aZ (b1 _ _) (b1 _ _)) e⟩;have:=(vg (w.alloc (.cells #[.int .i64 0,.int .i64 0,.int .i64 0,.int .i64 0,.int .i64 0,.int .i64 0] t)) a).below e;simpa using this
theorem Six.all {b:Nat} (k:Six w b f):w.cell? (b,0)=some (.int .i64 (f 0))/\w.cell? (b,1)=some (.int .i64 (f 1))/\w.cell? (b,2)=some (.int .i64 (f 2))/\w.cell? (b,3)=some (.int .i64 (f 3))/\w.cell? (b,4)=some (.int .i64 (f 4))/\w.cell? (b,5)=some (.int .i64 (f 5)) /\
  w.frozen? (b,0)=false/\w.frozen? (b,1)=false/\w.frozen? (b,2)=false/\w.frozen? (b,3)=false/\w.frozen? (b,4)=false/\w.frozen? (b,5)=false :=
 ⟨k.c 0 om,k.c 1 om,k.c 2 om,k.c 3 om,k.c 4 om,k.c 5 om,k.cf 0 om,k.cf 1 om,k.cf 2 om,k.cf 3 om,k.cf 4 om,k.cf 5 om⟩
theorem oH {v0 v1 v2 v3 v4 v5:Value} (b:Below w w w'):Below w w ((((((w'.setCell (w.heap.size,0) v0).setCell (w.heap.size,1) v1).setCell (w.heap.size,2) v2).setCell (w.heap.size,3) v3).setCell (w.heap.size,4) v4).setCell (w.heap.size,5) v5) :=
 (((((b.setCell nL _).setCell nL _).setCell nL _).setCell nL _).setCell nL _).setCell nL _
theorem Ai (sep:ByteArray) (a:Nat):∀(k:Nat) (s y:ByteArray),y ∈ Lib.splitB sep a k s->y.size<=s.size
 | 0,s,y,h=>by
  simp[Lib.splitB]at h;subst h;exact Nat.le_refl _
 | k+1,s,y,h=>by
  unfold Lib.splitB at h;split at h
  ·simp at h;subst h;exact Nat.le_refl _
  ·rw[List.mem_cons]at h;rcases h with h | h
   ·subst h;rw[ByteArray.size_extract];omega
   ·have:=Ai sep a k _ y h;rw[ByteArray.size_extract]at this;omega
theorem Qw {x y:ByteArray} {c:UInt8} (h:y ∈ words x c):y.size<=x.size:=Ai _ _ _ _ _ h
def zK:Option (Int×Int×Int×Int×Int×Int)->Value
 | some (pr,u,v,y,z,fl)=>.tuple #[pkt pr u v y z fl,.bool true]
 | none=>.tuple #[pkt 0 0 0 0 0 0,.bool false]
theorem parse_any (x:ByteArray) (hx:x.size<=4000) (w:World) (L:jU w) (T:Oh w) :
  Calls prog 202 #[.string x] w fun e w'=>e=.returned (zK (lQ x))/\Below w w w':=by
 have hz:∀y,y ∈ words x 32->y.size<=4000:=fun y hy=>dL (Qw hy) hx;have Zm:=block_lt T.1;have HL:Hid (jU w/\Oh w):=⟨L,T⟩;obtain⟨V,j⟩:∃V,zK (lQ x)=V:=⟨_,rfl⟩;rw[j];unfold lQ at j;clear L T;go_enter func202,ntmps202;go_wp2_with fail;refine(qQ x hx 32 _ (HL.1.below (((aH _ _).alloc nL _).alloc sM _))).mono ?_;rintro e w2 ⟨rfl,hc,hb⟩;have H:Hid (Nc w w2 (fun _=>0) (words x 32)):=adH w w2 _ _ _ hb (by simpa using hc);clear hc hb;generalize words x 32=ws at *;by_cases l:ws.length≠3/\ws.length≠4
 ·have n3:((ws.length:Int)==3)=false:=dG.2 om;have n4:((ws.length:Int)==4)=false:=dG.2 om;have m:Hid (zK none=V):=by
   rw[<- j];split
   ·simp at l
   ·simp at l
   ·rfl
  clear l j hz;go_wp2_with fail;go_quiet (fail)
  have k:=H.drewN nq;generalize w2.drewN nq=w3 at *;go_wp2_with fail;go_quiet (fail)
  have h:=k.drewN nq;generalize w3.drewN nq=w4 at *;have o:=And.intro h.r h.b;clear H k h;obtain⟨q,s,A,D,E,F,Q,R,S,U,W,X⟩:=o.1.all;go_wp2_with fail;exact bf (v:=.tuple #[pkt 0 0 0 0 0 0,.bool false]) (by simp[results,results202,go_sem,q,s,A,D,E,F]) rfl ⟨dP Ending.returned m,oH o.2⟩
 rcases ws with _ | ⟨a,_ | ⟨b,_ | ⟨c,_ | ⟨f,_ | ⟨g,r⟩⟩⟩⟩⟩;all_goals try exact absurd ⟨by simp only[vX,xG];omega,by simp only[vX,xG];omega⟩ l
 all_goals clear l
 by_cases Y:a=⟨#[117,100,112]⟩
 rotate_left
 ·have ha1:(a.toList==[117,100,112])=false:=by
   have:=Ah (a:=a) (b:=⟨#[117,100,112]⟩) (fun e=>Y e.symm);simpa using this
  have m:Hid (zK none=V):=by rw[<- j];exact(dP zK (ak Y)).symm
  have a0:=H.c 0 _ rfl;clear Y j hz;go_wp2_with fail;go_quiet ((go_at_call 189;first | exact Au (iF _) | exact Au (iG _)))
  have k:=H.drewN nq;have a1:=k.c 0 _ rfl;clear a0;generalize w2.drewN nq=w3 at *;go_wp2_with fail;go_quiet ((go_at_call 189;first | exact Au (iF _) | exact Au (iG _)))
  have h:=k.drewN nq;generalize w3.drewN nq=w4 at *;have o:=And.intro h.r h.b;clear H k h a1;obtain⟨q,s,A,D,E,F,Q,R,S,U,W,X⟩:=o.1.all;go_wp2_with fail;exact bf (v:=.tuple #[pkt 0 0 0 0 0 0,.bool false]) (by simp[results,results202,go_sem,q,s,A,D,E,F]) rfl ⟨dP Ending.returned m,oH o.2⟩
 by_cases Y:a=⟨#[116,99,112]⟩
 rotate_left
 ·have ha1:(a.toList==[116,99,112])=false:=by
   have:=Ah (a:=a) (b:=⟨#[116,99,112]⟩) (fun e=>Y e.symm);simpa using this
  have m:Hid (zK none=V):=by rw[<- j];exact(dP zK (ak Y)).symm
  have a0:=H.c 0 _ rfl;clear Y j hz;go_wp2_with fail;go_quiet ((go_at_call 189;first | exact Au (iF _) | exact Au (iG _)))
  have k:=H.drewN nq;have a1:=k.c 0 _ rfl;clear a0;generalize w2.drewN nq=w3 at *;go_wp2_with fail;go_quiet ((go_at_call 189;first | exact Au (iF _) | exact Au (iG _)))
  have h:=k.drewN nq;generalize w3.drewN nq=w4 at *;have o:=And.intro h.r h.b;clear H k h a1;obtain⟨q,s,A,D,E,F,Q,R,S,U,W,X⟩:=o.1.all;go_wp2_with fail;exact bf (v:=.tuple #[pkt 0 0 0 0 0 0,.bool false]) (by simp[results,results202,go_sem,q,s,A,D,E,F]) rfl ⟨dP Ending.returned m,oH o.2⟩
 all_goals
  subst Y;obtain⟨B,hB⟩:∃B,pe b.data.toList=B:=⟨_,rfl⟩;obtain⟨C,hC⟩:∃C,pe c.data.toList=C:=⟨_,rfl⟩;have Z:Hid (b.size<=4000/\c.size<=4000/\pe b.data.toList=B/\pe c.data.toList=C):=⟨hz b sM,hz c sM,hB,hC⟩;simp only[mV,hB,hC]at j;clear hB hC;have a0:=H.c 0 _ rfl;go_wp2_with fail;go_quiet ((go_at_call 189;first | exact Au (iF _) | exact Au (iG _)))
  clear a0;have G:=H.drewN nq;generalize w2.drewN nq=w2b at *;clear H
 rotate_left;focus
  have HF:Hid (f.size<=4000):=hz f sM;have a0:=G.c 0 _ rfl;go_wp2_with fail;go_quiet ((go_at_call 189;first | exact Au (iF _) | exact Au (iG _)))
  clear a0;have Zj:=G.drewN nq;clear G;generalize w2b.drewN nq=w2b at *;have G:=Zj
 rotate_left;all_goals
  clear hz;have p0:=G.p.c 0 om;have Zk:=G.p.cf 0 om;go_wp2_with fail;refine(nG _ _ _).mono ?_;rintro e w3 ⟨rfl,Zg⟩;have k:=(G.set (i:=0) om _).below Zg;clear Zg p0 Zk;have i0 := Tryz.O0;have i1 := Tryz.O7;have a1:=k.c 1 _ rfl;go_wp2_with fail;refine lq 3 ?_;rw[bM];go_wp2_with fail;rcases B with _ | ⟨u,v⟩
  ·have m:Hid (zK none=V):=j;refine(vT b Z.1 Z.2.2.1 _ _ (HL.1.below k.b)).mono ?_;rintro e w4 ⟨rfl,I⟩;have h:=k.below I;have o:=And.intro h.r h.b;clear I a1 h k j;obtain⟨q,s,A,D,E,F,Q,R,S,U,W,X⟩:=o.1.all;go_wp2_with fail;exact bf (v:=.tuple #[pkt 0 0 0 0 0 0,.bool false]) (by simp[results,results202,go_sem,q,s,A,D,E,F]) rfl ⟨dP Ending.returned m,oH o.2⟩
  refine(vU b Z.1 u v Z.2.2.1 _ _ _ (HL.1.below k.b) _ _ (k.p.c 1 om) (k.p.c 2 om) (k.p.cf 1 om) (k.p.cf 2 om)).mono ?_;rintro e w4 ⟨rfl,Zn,I,Zh⟩;have h:=((k.below I).set (i:=1) om u).set (i:=2) om v;rw[<- Zh]at h;clear I Zh a1;have a2:=h.c 2 _ rfl;go_wp2_with fail;rw[bM];go_wp2_with fail;rcases C with _ | ⟨y,z⟩
  ·have m:Hid (zK none=V):=j;refine(vT c Z.2.1 Z.2.2.2 _ _ (HL.1.below h.b)).mono ?_;rintro e w5 ⟨rfl,J⟩;have K:=h.below J;have o:=And.intro K.r K.b;clear J a2 K h k j;obtain⟨q,s,A,D,E,F,Q,R,S,U,W,X⟩:=o.1.all;go_wp2_with fail;exact bf (v:=.tuple #[pkt 0 0 0 0 0 0,.bool false]) (by simp[results,results202,go_sem,q,s,A,D,E,F]) rfl ⟨dP Ending.returned m,oH o.2⟩
  refine(vU c Z.2.1 y z Z.2.2.2 _ _ _ (HL.1.below h.b) _ _ (h.p.c 3 om) (h.p.c 4 om) (h.p.cf 3 om) (h.p.cf 4 om)).mono ?_;rintro e w5 ⟨rfl,Zp,J,Zi⟩;have K:=((h.below J).set (i:=3) om y).set (i:=4) om z;rw[<- Zi]at K;clear J Zi a2 k h
 ·have m:Hid (zK (some (1,u,v,y,z,0))=V):=j;have M:=K;clear K j;obtain⟨q,s,A,D,E,F,Q,R,S,U,W,X⟩:=M.r.all;obtain⟨N,e1,e2,e3,e4,e5,_⟩:=M.p.all;simp only[EK,mV,Ik,Nat.reduceEqDiff]at N e1 e2 e3 e4 e5;go_wp2_with fail;rw[bM];go_wp2_with fail;exact bf (v:=.tuple #[pkt 1 u v y z 0,.bool true]) (by simp[results,results202,go_sem,q,s,A,D,E,F]) rfl ⟨dP Ending.returned m,oH M.b⟩
 have a3:=K.c 3 _ rfl;have N:=K.p.c 0 om;simp only[EK,mV,Ik,Nat.reduceEqDiff]at N;have O:Hid (Nc w w5 _ _):=K;clear K;go_wp2_with fail;rw[bM];go_wp2_with fail;by_cases hd:f=⟨#[45]⟩
 ·subst hd;have m:Hid (zK (some (2,u,v,y,z,0))=V):=j;refine(AU _ _ _).mono ?_;rintro e w6 ⟨rfl,Zl⟩;subst Zl;have M:=O.out;clear a3 N j O;obtain⟨q,s,A,D,E,F,Q,R,S,U,W,X⟩:=M.r.all;obtain⟨N,e1,e2,e3,e4,e5,_⟩:=M.p.all;simp only[EK,mV,Ik,Nat.reduceEqDiff]at N e1 e2 e3 e4 e5;go_wp2_with fail;exact bf (v:=.tuple #[pkt 2 u v y z 0,.bool true]) (by simp[results,results202,go_sem,q,s,A,D,E,F]) rfl ⟨dP Ending.returned m,oH M.b⟩
 have P:pf f=lN (words f 43) 0:=ak hd;refine(EL f HF hd _ _ _ (HL.1.below O.b) (HL.2.below O.b) (O.p.c 5 om) (O.p.cf 5 om) om).mono ?_;rintro e w6 (⟨r,hr,rfl,hW⟩ | ⟨hr,rfl,hg⟩)
 ·have m:Hid (zK (some (2,u,v,y,z,r))=V):=by rw[P,hr]at j;exact j
  have M:=O.wr hW;clear a3 N j O hW hr P hd;obtain⟨q,s,A,D,E,F,Q,R,S,U,W,X⟩:=M.r.all;obtain⟨N,e1,e2,e3,e4,e5,_⟩:=M.p.all;simp only[EK,mV,Ik,Nat.reduceEqDiff]at N e1 e2 e3 e4 e5;go_wp2_with fail;exact bf (v:=.tuple #[pkt 2 u v y z r,.bool true]) (by simp[results,results202,go_sem,q,s,A,D,E,F]) rfl ⟨dP Ending.returned m,oH M.b⟩
 ·have m:Hid (zK none=V):=by rw[P,hr]at j;exact j
  have o:=O.grown hg;clear a3 N j O hg hr P hd;obtain⟨q,s,A,D,E,F,Q,R,S,U,W,X⟩:=o.1.all;go_wp2_with fail;exact bf (v:=.tuple #[pkt 0 0 0 0 0 0,.bool false]) (by simp[results,results202,go_sem,q,s,A,D,E,F]) rfl ⟨dP Ending.returned m,oH o.2⟩
theorem Qx (x:ByteArray) (a:x.size<=4000) (w:World) (L:jU w) (T:Oh w) (h:lQ x=none) :
  Calls prog 202 #[.string x] w fun e w'=>e=.returned (.tuple #[pkt 0 0 0 0 0 0,.bool false])/\Below w.heap.size w w':=by
 have:=parse_any x a w L T;rw[h]at this;exact this
theorem xg (x:ByteArray) (j:x.size<=4000) (w:World) (L:jU w) (T:Oh w) (a u v y z i:Int) (h:lQ x=some (a,u,v,y,z,i)) :
  Calls prog 202 #[.string x] w fun e w'=>e=.returned (.tuple #[pkt a u v y z i,.bool true])/\Below w.heap.size w w':=by
 have:=parse_any x j w L T;rw[h]at this;exact this
end
structure oI (w:World) (s:Nat->Addr):Prop where
 e:Env w s
 l:jU w
theorem oI.below {w w':World} {s:Nat->Addr} (E:oI w s) (h:Below w.heap.size w w'):oI w' s:=⟨E.e.below h,E.l.below h⟩
theorem aaR (s:Nat->Addr) (k:Nat):nH s (k+1)=.iface 359 (.pointer (some (s k))):=rfl
theorem VR (x:ByteArray) (o:x.size<=4000) (s:Nat->Addr) (w:World) (E:oI w s) (h:lQ x=none) :
  Calls prog 166 #[.string x] w fun e w'=>e=.returned (.tuple #[pkt 0 0 0 0 0 0,nH s 1])/\Below w.heap.size w w':=by
 have k:=jH E;have H:=jH h;clear h;clear E;have b1:Hid (Below w.heap.size w (w.alloc (.cells #[.int .i64 0,.int .i64 0,.int .i64 0,.int .i64 0,.int .i64 0,.int .i64 0] 35))):=(aH _ _).alloc nL _;go_enter func166,ntmps166;go_wp2_with fail;refine jM (Qx x o _ (k.out.l.below b1.out) (k.out.e.n.below b1.out) H.out) fun m f=>?_;have a:Hid (Six (m.alloc (.cells #[.int .i64 0,.int .i64 0,.int .i64 0,.int .i64 0,.int .i64 0,.int .i64 0] 35)) w.heap.size (fun _=>0)):=((vg w _).below f).below ((aH _ _).alloc nL _);have i:=jH (aZ b1.out f);have j:Hid (Below w.heap.size w (m.alloc (.cells #[.int .i64 0,.int .i64 0,.int .i64 0,.int .i64 0,.int .i64 0,.int .i64 0] 35))):=i.out.alloc i.out.size _;have E2:=jH (k.out.below j.out);clear f;go_wp2_with fail;generalize m.alloc (.cells #[.int .i64 0,.int .i64 0,.int .i64 0,.int .i64 0,.int .i64 0,.int .i64 0] 35)=w2 at *;have p:=E2.out.e.s.c0;have D:(w2.setCell ⟨w.heap.size,0,none⟩ (.int .i64 0)).cell? ⟨1,0,none⟩=some (.iface 359 (.pointer (some (s 0)))):=((lT _ _ _ _ (fun e=>by have:=dP Addr.block e;have q:=block_lt k.out.e.s.c0;simp at this q;omega)).trans p);have u:=a.out.c 0 om;have F:=a.out.cf 0 om;have y:=a.out.c 1 om;have G:=a.out.cf 1 om;have z:=a.out.c 2 om;have I:=a.out.cf 2 om;have A:=a.out.c 3 om;have J:=a.out.cf 3 om;have B:=a.out.c 4 om;have K:=a.out.cf 4 om;have C:=a.out.c 5 om;have L:=a.out.cf 5 om;go_region;all_goals go_wp2_with fail
 all_goals exact bf (v:=.tuple #[pkt 0 0 0 0 0 0,.iface 359 (.pointer (some (s 0)))]) (by simp[results,results166,go_sem,u,y,z,A,B,C]) rfl ⟨rfl,by
  repeat (first | refine wo ?_ (by exact bJ _) _ | refine qZ ?_ | exact j.out)⟩
theorem aaS (x:ByteArray) (D:x.size<=4000) (i u v y z j:Int) (k:Nat) (s:Nat->Addr) (w:World) (E:oI w s) (h:lQ x=some (i,u,v,y,z,j)) (C:dB i u v y z j=k+1) :
  Calls prog 166 #[.string x] w fun e w'=>e=.returned (.tuple #[pkt 0 0 0 0 0 0,nH s 1])/\Below w.heap.size w w':=by
 have q:=jH E;have H:=jH h;clear h;have F:=jH C;clear C;clear E;have b1:Hid (Below w.heap.size w (w.alloc (.cells #[.int .i64 0,.int .i64 0,.int .i64 0,.int .i64 0,.int .i64 0,.int .i64 0] 35))):=(aH _ _).alloc nL _;go_enter func166,ntmps166;go_wp2_with fail;refine jM (xg x D _ (q.out.l.below b1.out) (q.out.e.n.below b1.out) i u v y z j H.out) fun o m=>?_;have A:Below o.heap.size o (o.alloc (.cells #[.int .i64 i,.int .i64 u,.int .i64 v,.int .i64 y,.int .i64 z,.int .i64 j] 35)):=(aH _ _).alloc nL _;have G:=jH (((vg w _).below m).below A);have p:=jH (aZ (aZ b1.out m) A);have R:Hid (Jm (o.alloc (.cells #[.int .i64 i,.int .i64 u,.int .i64 v,.int .i64 y,.int .i64 z,.int .i64 j] 35)) o.heap.size i u v y z j):=⟨by simp,by simp,by simp,by simp,by simp,by simp⟩;have E2:=jH (q.out.below p.out);clear m A;go_wp2_with fail;refine jM (MZ k i u v y z j s _ (fun W S=>by have:=check_any i u v y z j s W S.sen;rw[F.out]at this;exact this) E2.out.e.s) fun I f=>?_;have a:=jH (G.out.below f);have B:=jH (aZ p.out f);have J:=(E2.out.below f).e.s.c0;have T:(I.setCell ⟨w.heap.size,0,none⟩ (.int .i64 0)).cell? ⟨1,0,none⟩=some (.iface 359 (.pointer (some (s 0)))):=((lT _ _ _ _ (fun e=>by have:=dP Addr.block e;have K:=block_lt q.out.e.s.c0;simp at this K;omega)).trans J);rw[aaR];clear f;have L:=a.out.c 0 om;have U:=a.out.cf 0 om;have M:=a.out.c 1 om;have V:=a.out.cf 1 om;have N:=a.out.c 2 om;have X:=a.out.cf 2 om;have O:=a.out.c 3 om;have Y:=a.out.cf 3 om;have P:=a.out.c 4 om;have Z:=a.out.cf 4 om;have Q:=a.out.c 5 om;have g5:=a.out.cf 5 om;go_wp2_with fail;go_region;all_goals go_wp2_with fail
 all_goals exact bf (v:=.tuple #[pkt 0 0 0 0 0 0,.iface 359 (.pointer (some (s 0)))]) (by simp[results,results166,go_sem,L,M,N,O,P,Q]) rfl ⟨rfl,by
  repeat (first | refine wo ?_ (by exact bJ _) _ | refine qZ ?_ | exact B.out)⟩
theorem VT (x:ByteArray) (D:x.size<=4000) (f u v y z i:Int) (s:Nat->Addr) (w:World) (E:oI w s) (h:lQ x=some (f,u,v,y,z,i)) (B:sK f u v y z i) (C:¬x=⟨(iT f u v y z i).toArray⟩) :
  Calls prog 166 #[.string x] w fun e w'=>e=.returned (.tuple #[pkt 0 0 0 0 0 0,nH s 1])/\Below w.heap.size w w':=by
 have p:=jH E;have H:=jH h;clear h;have F:=jH B;clear B;have G:=jH C;clear C;clear E;have b1:Hid (Below w.heap.size w (w.alloc (.cells #[.int .i64 0,.int .i64 0,.int .i64 0,.int .i64 0,.int .i64 0,.int .i64 0] 35))):=(aH _ _).alloc nL _;go_enter func166,ntmps166;go_wp2_with fail;refine jM (xg x D _ (p.out.l.below b1.out) (p.out.e.n.below b1.out) f u v y z i H.out) fun m k=>?_;have q:Below m.heap.size m (m.alloc (.cells #[.int .i64 f,.int .i64 u,.int .i64 v,.int .i64 y,.int .i64 z,.int .i64 i] 35)):=(aH _ _).alloc nL _;have I:=jH (((vg w _).below k).below q);have o:=jH (aZ (aZ b1.out k) q);have T:Hid (Jm (m.alloc (.cells #[.int .i64 f,.int .i64 u,.int .i64 v,.int .i64 y,.int .i64 z,.int .i64 i] 35)) m.heap.size f u v y z i):=⟨by simp,by simp,by simp,by simp,by simp,by simp⟩;have E2:=jH (p.out.below o.out);clear k q;go_wp2_with fail;refine jM (Jo f u v y z i s _ E2.out.e F.out) fun J j=>?_;have a:=jH (I.out.below j);have A:=jH (aZ o.out j);have K:=(E2.out.below j).e.s.c0;have U:(J.setCell ⟨w.heap.size,0,none⟩ (.int .i64 0)).cell? ⟨1,0,none⟩=some (.iface 359 (.pointer (some (s 0)))):=((lT _ _ _ _ (fun e=>by have:=dP Addr.block e;have L:=block_lt p.out.e.s.c0;simp at this L;omega)).trans K);have M:(iT f u v y z i==x.toList)=false:=by
  have:=Ah G.out;rw[ByteArray.toList_mk]at this;exact this
 clear j;have N:=a.out.c 0 om;have V:=a.out.cf 0 om;have O:=a.out.c 1 om;have W:=a.out.cf 1 om;have P:=a.out.c 2 om;have X:=a.out.cf 2 om;have Q:=a.out.c 3 om;have Y:=a.out.cf 3 om;have R:=a.out.c 4 om;have Z:=a.out.cf 4 om;have S:=a.out.c 5 om;have g5:=a.out.cf 5 om;go_wp2_with fail;go_region;all_goals go_wp2_with fail
 all_goals exact bf (v:=.tuple #[pkt 0 0 0 0 0 0,.iface 359 (.pointer (some (s 0)))]) (by simp[results,results166,go_sem,N,O,P,Q,R,S]) rfl ⟨rfl,by
  repeat (first | refine wo ?_ (by exact bJ _) _ | refine qZ ?_ | exact A.out)⟩
theorem adI (x:ByteArray) (F:x.size<=4000) (f u v y z i:Int) (s:Nat->Addr) (w:World) (E:oI w s) (h:lQ x=some (f,u,v,y,z,i)) (C:sK f u v y z i) (D:x=⟨(iT f u v y z i).toArray⟩) :
  Calls prog 166 #[.string x] w fun e w'=>e=.returned (.tuple #[pkt f u v y z i,.nilIface])/\Below w.heap.size w w':=by
 have q:=jH E;have H:=jH h;clear h;have G:=jH C;clear C;have I:=jH D;clear D;clear E;have b1:Hid (Below w.heap.size w (w.alloc (.cells #[.int .i64 0,.int .i64 0,.int .i64 0,.int .i64 0,.int .i64 0,.int .i64 0] 35))):=(aH _ _).alloc nL _;go_enter func166,ntmps166;go_wp2_with fail;refine jM (xg x F _ (q.out.l.below b1.out) (q.out.e.n.below b1.out) f u v y z i H.out) fun o k=>?_;have A:Below o.heap.size o (o.alloc (.cells #[.int .i64 f,.int .i64 u,.int .i64 v,.int .i64 y,.int .i64 z,.int .i64 i] 35)):=(aH _ _).alloc nL _;have J:=jH (((vg w _).below k).below A);have p:=jH (aZ (aZ b1.out k) A);have K:Hid (Jm (o.alloc (.cells #[.int .i64 f,.int .i64 u,.int .i64 v,.int .i64 y,.int .i64 z,.int .i64 i] 35)) o.heap.size f u v y z i):=⟨by simp,by simp,by simp,by simp,by simp,by simp⟩;have E2:=jH (q.out.below p.out);clear k A;go_wp2_with fail;refine jM (Jo f u v y z i s _ E2.out.e G.out) fun S j=>?_;have a:=jH (J.out.below j);have B:=jH (aZ p.out j);have m:=jH (K.out.below j);have L:(iT f u v y z i==x.toList)=true:=by rw[I.out,ByteArray.toList_mk];exact beq_self_eq_true _
 have T:=m.out.c0;have k1:=m.out.c1;have k2:=m.out.c2;have k3:=m.out.c3;have k4:=m.out.c4;have k5:=m.out.c5;clear j;have M:=a.out.c 0 om;have U:=a.out.cf 0 om;have N:=a.out.c 1 om;have V:=a.out.cf 1 om;have O:=a.out.c 2 om;have W:=a.out.cf 2 om;have P:=a.out.c 3 om;have X:=a.out.cf 3 om;have Q:=a.out.c 4 om;have Y:=a.out.cf 4 om;have R:=a.out.c 5 om;have Z:=a.out.cf 5 om;go_wp2_with fail;all_goals exact bf (by simp[results,results166,go_sem,M,N,O,P,Q,R]) rfl ⟨rfl,by
  repeat (first | refine wo ?_ (by exact bJ _) _ | refine qZ ?_ | exact B.out)⟩
end Go.Proofs.YtnogmjekhjldcaaGreatDoor
