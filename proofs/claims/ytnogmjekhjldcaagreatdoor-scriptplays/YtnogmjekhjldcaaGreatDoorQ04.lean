/-
  What the claimed theorem reaches, part Q04.
-/
import Derived.Test.YtnogmjekhjldcaaGreatDoorQ03
namespace Go.Proofs.YtnogmjekhjldcaaGreatDoor
open Go.RowKit Go.Proofs.Tryz Go.Proofs.Tryz
set_option maxRecDepth 100000
set_option maxHeartbeats 8000000
theorem af7 {w0 x:World} {P:World->Prop} {A:Prop} (h:∀w',Below w0 w0 w'->P w'/\Below w0 w0 w') (a:A/\Below w0 w0 x) :
    ∃y q,x.alloc (.cells #[.int .i64 0,.int .i64 0,.int .i64 0] 325)=y/\x.heap.size=q/\(P y/\Below w0 w0 y)/\Hid (iy y q 0 0 0)/\Hid (w0.heap.size<=q) :=
  ⟨_,_,rfl,rfl,h _ (t2 a.2 (aB _ _)),dh _ _,a.2.size⟩
theorem aeQ {w0 x:World} {P:World->Prop} {A:Prop} {q:Nat} (a b c:Int) (h:∀w',Below w0 w0 w'->P w'/\Below w0 w0 w') (f:A/\Below w0 w0 x) (e:w0.heap.size<=q) (i:iy x q 0 0 0) :
    ∃z,((x.setCell (q,0) a).setCell (q,1) b).setCell (q,2) c=z/\(P z/\Below w0 w0 z)/\iy z q a b c :=
  ⟨_,rfl,h _ (((f.2.setCell e _).setCell e _).setCell e _),i.put a b c⟩
theorem ag5 (m:UInt8) (n k:Nat) (D:Bool):(m==165 && D && decide (1<=n) && n % 2==k)=(!((m.toNat:Int) != 165) && D && !decide ((n:Int) < 1) && !(((n % 2:Nat):Int) != (k:Int))):=by
  have a:(m==165)=!((m.toNat:Int) != 165):=by
    by_cases h:m=165
    · subst h;decide
    · have e:((m.toNat:Int) != 165)=true:=by rw[qY];intro e;exact h (UInt8.toNat_inj.1 (by show m.toNat=165;omega))
      rw[e,dG.2 h];rfl
  have f:decide (1<=n)=!decide ((n:Int) < 1):=by by_cases h:1<=n <;> simp[h] <;> omega
  have i:(n % 2==k)=!(((n % 2:Nat):Int) != (k:Int)):=by
    by_cases h:n % 2=k
    · rw[h];simp
    · have e:(((n % 2:Nat):Int) != (k:Int))=true:=by rw[qY];omega
      rw[e,dG.2 h];rfl
  rw[a,f,i]
theorem aeR (b k o c r:Nat) (K:Int) (hk:k=0/\K=0/\o=0/\c=16/\r=64\/k=1/\K=1/\o=20/\c=36/\r=44) (s:By) (w:World) (S:fK w b s) :
    Calls prog 303 #[.pointer (some (b,0)),K] w fun e w'=>(∃x:Nm,e=.returned (.tuple #[CS x,.bool (bC s.B k)])/\(bC s.B k=true->x=aX s.B k))/\Below w w w':=by
  have R:o=20 * k/\c=20 * k+16/\K=(k:Int)/\k < 2/\c < 64:=by omega
  have HS:Hid (fK w b s):=S;have Zq:=S.lt;obtain⟨L,C⟩:∃L,L=slotL s.B k:=⟨_,rfl⟩;have U:L.length=16:=C ▸ yS S.2 k R.2.2.2.1;have HR:Hid (w.rangeAt b o (L.map sJ)):=by rw[C,R.1];exact S.range k R.2.2.2.1
  obtain⟨m,Y⟩:∃m,m=s.B.getD c 0:=⟨_,rfl⟩;have HM:Hid (∀w',fK w' b s->w'.cell? (b,c)=some (.int .u8 m.toNat)):=fun w' h=>by rw[h.at' c R.2.2.2.2,Y];rfl
  obtain⟨f,G⟩:∃n,n=qB L 0 4:=⟨_,rfl⟩;obtain⟨l,H⟩:∃n,n=qB L 4 4:=⟨_,rfl⟩;obtain⟨u,I⟩:∃n,n=qB L 8 4:=⟨_,rfl⟩;have HN:Ip L=⟨f,l,u⟩:=by rw[G,H,I];exact rfl
  have V:Hid (f < 4294967296/\l < 4294967296/\u < 4294967296):=by rw[G,H,I];exact⟨uD _ _,uD _ _,uD _ _⟩
  have HX:Hid (aX s.B k=⟨f,l,u⟩):=by show _=_;unfold aX;rw[<- C,HN]
  have HE:Hid (bC s.B k=(!((m.toNat:Int) != 165) && (L==img ⟨f,l,u⟩) && !decide ((f:Int) < 1) && !(((f % 2:Nat):Int) != K))):=by
    show _=_;rw[R.2.2.1,<- ag5];unfold bC JM oW;rw[<- C,HN,Y,R.2.1]
  have T:Hid (∀j:Nat,j+4<=16->∀w:World,Calls prog 310 #[.agg (dA L),j] w fun e w'=>e=.returned (.int .i64 (qB L j 4))/\Below w w w'):=fun j hj w=>TW L U j om w;have TA:Hid (∀w:World,Calls prog 310 #[.agg (dA L),.int .i64 0] w fun e w'=>e=.returned f/\Below w w w'):=G ▸ T.out 0 om;have TB:Hid (∀w:World,Calls prog 310 #[.agg (dA L),.int .i64 4] w fun e w'=>e=.returned l/\Below w w w'):=H ▸ T.out 4 om;have TC:Hid (∀w:World,Calls prog 310 #[.agg (dA L),.int .i64 8] w fun e w'=>e=.returned u/\Below w w w'):=I ▸ T.out 8 om;have HI:Hid ((prog.info? 363).map (·.size)=some (dA L).size):=Oy L U;have HO:Hid ((dA L).all (·.oneCell')=true):=acn L;have Zk:=run_arrayAt (P := prog) (w:=w.alloc (.cells #[.int .i64 0,.int .i64 0,.int .i64 0] 325)) 363 5 16 (some (b,o)) r r Tryz.underlying363 om;have Zg:(Instr.loadAt 363 (.pointer (some (b,o)))).run prog (w.alloc (.cells #[.int .i64 0,.int .i64 0,.int .i64 0] 325))=.ok (.agg (dA L)) (w.alloc (.cells #[.int .i64 0,.int .i64 0,.int .i64 0] 325)) :=
    uF (fun j v hv=>tk (aB _ _) (HR.out j v hv)) Tryz.underlying363 rfl (by rw[U];kernel_rfl)
  have Zn:IntKind.i64.wrap 16=16:=by decide
  have Zp:IntKind.i64.wrap 36=36:=by decide
  clear S T C Y G H I R HN;rcases hk with⟨rfl,rfl,rfl,rfl,rfl⟩ | ⟨rfl,rfl,rfl,rfl,rfl⟩;all_goals
    go_enter func303,ntmps303;go_wp2_with (first | refine bP rfl 363 _ rfl _ _ rfl Zg ?_ | refine Xa rfl 363 _ _ rfl (w.heap.size+1) (dA L) rfl rfl 363 _ (Xc w _ _) HI.out (by rw[qH,U];rfl) HO.out ?_)
    rw[Fp];have B0:Hid (Below w w ((w.alloc (.cells #[.int .i64 0,.int .i64 0,.int .i64 0] 325)).alloc (.cells (dA L) 363))):=t2 (aB _ _) (aB _ _);have A0:Hid (Jz ((w.alloc (.cells #[.int .i64 0,.int .i64 0,.int .i64 0] 325)).alloc (.cells (dA L) 363)) (w.heap.size+1) L):=⟨Xc w _ _,U⟩;have R0:Hid (iy ((w.alloc (.cells #[.int .i64 0,.int .i64 0,.int .i64 0] 325)).alloc (.cells (dA L) 363)) w 0 0 0):=by
      show(World.heap _)[_]? = _;rw[heap_alloc_old _ _ sM,dh]
    generalize (w.alloc (.cells #[.int .i64 0,.int .i64 0,.int .i64 0] 325)).alloc (.cells (dA L) 363)=w0 at *;obtain⟨Z,hZ⟩:∃Z,Z=w.heap.size:=⟨_,rfl⟩;have HZ:Hid (Z=w.heap.size):=hZ;rw[<- hZ]at A0 R0 ⊢;clear hZ Zk Zg;obtain⟨cs,E⟩:∃cs,cs=L.map sJ:=⟨_,rfl⟩;have F:Hid (∀w',Below w0 w0 w'->w'.rangeAt (Z+1) 0 cs/\Below w0 w0 w'):=fun w' J=>⟨by rw[E];exact oZ (A0.out.below J).1,J⟩;have M:(prog.info? 363).map (·.size)=some cs.length:=by rw[E,vC,U];kernel_rfl
    have N := Tryz.underlying363;have e0:dA L=cs.toArray:=by rw[E];rfl
    rw[e0]at TA TB TC;have Zh:Hid (cs=L.map sJ):=E;clear E e0;have a:=F.out w0.drew bD;simp only[Act.put];go_cut [8] (fun p wx=>∃q,p=.pointer (some ⟨q,0,none⟩)/\w0.heap.size<=q/\iy wx q f l u/\Below w0 w0 wx)
    case first =>
      refine TF ?_;refine Ih (S:=(fun w':World=>w'.rangeAt (Z+1) 0 cs/\Below w0 w0 w')) kr a (fun _=>?_);refine jq 0 rfl (ab7 (by rfl) 363 _ rfl (Z+1) 0 rfl cs _ (fun _ h=>h.1) N rfl M) a ?_;simp only[sP];refine jq 2 rfl (ab7 (by rfl) 363 _ rfl (Z+1) 0 rfl cs _ (fun _ h=>h.1) N rfl M) a ?_;simp only[sP];refine jq 4 rfl (ab7 (by rfl) 363 _ rfl (Z+1) 0 rfl cs _ (fun _ h=>h.1) N rfl M) a ?_;simp only[sP];generalize w0.drew=x at *;iterate 4
        all_goals first
          | refine qF (rs:=[1,7]) (by decide +kernel) sM ?_
          | refine qF (rs:=[3,7]) (by decide +kernel) sM ?_
          | refine qF (rs:=[5,7]) (by decide +kernel) sM ?_
          | refine qF (rs:=[7]) (by decide +kernel) sM ?_
          | refine qF (rs:=[1]) (by decide +kernel) sM ?_
          | refine qF (rs:=[3]) (by decide +kernel) sM ?_
          | refine qF (rs:=[5]) (by decide +kernel) sM ?_
        all_goals first
          | refine sH (o:=_) rfl (fun K A=>?_) wu
          | refine sH (o:=_) rfl (fun K A=>?_) (sH (o:=_) rfl (fun K A=>?_) wu)
        all_goals go_simp
        all_goals first
          | (with_reducible first | refine(TA.out _).mono ?_ | refine(TB.out _).mono ?_ | refine(TC.out _).mono ?_
             rintro e x ⟨rfl,X⟩;go_wp2_with fail;have a:=F.out x (t2 (And.right a) X);try have W:=jH (W.out.below X)
             refine A.out _ _ a (fun _=>?_);clear X)
          | (obtain⟨y,q,ey,eq,a,W,HQ⟩:=af7 F.out a
             rw[ey,eq];clear ey eq;refine A.out _ _ a (fun _=>?_))
        all_goals clear A K
        all_goals try simp only[sP]
        all_goals try (refine AV 6 a ?_ (hr:=by decide +kernel);simp only[sP])
      all_goals
        have c0:=W.out.c0;have c1:=W.out.c1;have c2:=W.out.c2;have cf:=fun i=>W.out.fr i;refine qF (rs:=[8]) kr sM ?_;refine sH (o:=_) rfl (fun K A=>?_) wu;go_simp;obtain⟨z,ez,a,q9⟩:=aeQ f l u F.out a HQ.out W.out;rw[ez];clear ez;refine A.out _ _ a (fun _=>?_);clear A K;try simp only[sP]
        refine Ij kr ?_ _;refine TM ?_;go_wp2_with fail;go_meet
        case rel=>exact⟨q,rfl,HQ.out,q9,And.right a⟩
    case rest =>
      obtain⟨q,rfl,Zl,O,Q⟩:=hcut;have B1:=jH (t2 B0.out Q);have A1:=jH (A0.out.below Q);have R1:=jH (R0.out.below Q);have Zi:=HM.out wc (HS.out.below B1.out);have Zj:Hid (∀w',Below wc wc w'->w'.cell? ⟨b,_,none⟩=some (.int .u8 m.toNat)/\w'.rangeAt (Z+1) 0 cs/\w'.cell? (q,0)=f/\w'.cell? (q,1)=l/\w'.cell? (q,2)=u/\Below wc wc w'):=fun w' J =>
        ⟨tk J Zi,by rw[Zh.out];exact oZ (A1.out.below J).1,(iy.below O J).c0,(iy.below O J).c1,(iy.below O J).c2,J⟩
      have a:=Zj.out wc.drew bD;have Zm:=fun (w:World)=>af6 L (img ⟨f,l,u⟩) U (eG _) w;have e0:dA L=cs.toArray:=by rw[Zh.out];rfl
      rw[e0]at Zm;have IM:Hid (∀w:World,Calls prog 290 #[.agg #[f,l,u]] w fun e w'=>e=.returned (.agg (dA (img ⟨f,l,u⟩)))/\Below w w w'):=fun w=>Gg ⟨f,l,u⟩ V.out.1 V.out.2.1 V.out.2.2 w;generalize dA (img ⟨f,l,u⟩)=ia at *;generalize (L==img ⟨f,l,u⟩)=D at *;clear Zl O Q e0 F Zi;obtain⟨c1,Y⟩:∃c,((m.toNat:Int) != 165)=c:=⟨_,rfl⟩;obtain⟨c3,hn⟩:∃c,decide ((f:Int) < 1)=c:=⟨_,rfl⟩;rw[Y,hn]at HE;first
        | (obtain⟨c4,hp⟩:∃c,(((f % 2:Nat):Int) != 0)=c:=⟨_,rfl⟩;rw[hp]at HE)
        | (obtain⟨c4,hp⟩:∃c,(((f % 2:Nat):Int) != 1)=c:=⟨_,rfl⟩;rw[hp]at HE)
      go_wp2_with fail
      cases c1
      focus (cases D;rotate_left;focus (cases c3;focus cases c4))
      all_goals first
        | refine Ih (S:=(fun w':World=>w'.cell? (b,16)=some (.int .u8 m.toNat)/\w'.rangeAt (Z+1) 0 cs/\w'.cell? (q,0)=f/\w'.cell? (q,1)=l/\w'.cell? (q,2)=u/\Below wc wc w')) kr a (fun _=>?_)
        | refine Ih (S:=(fun w':World=>w'.cell? (b,36)=some (.int .u8 m.toNat)/\w'.rangeAt (Z+1) 0 cs/\w'.cell? (q,0)=f/\w'.cell? (q,1)=l/\w'.cell? (q,2)=u/\Below wc wc w')) kr a (fun _=>?_)
      all_goals generalize wc.drew=x0 at *
      all_goals (refine AV 0 a ?_;simp only[sP];refine AV 1 a ?_;simp only[sP];refine AV 2 a ?_;simp only[sP];refine AV 3 a ?_;simp only[sP];refine AV 4 a ?_;simp only[sP];refine AV 5 a ?_;simp only[sP];refine AV 6 a ?_;simp only[sP];refine AV 7 a ?_;simp only[sP];refine AV 8 a ?_;simp only[sP])
      all_goals first
        | (refine Wu 9 rfl a ?_;simp only[sP];refine Wu 10 rfl a ?_;simp only[sP];refine Wu 11 rfl a ?_;simp only[sP];refine Wu 12 rfl a ?_;simp only[sP])
        | (refine jq 9 rfl (ab7 (by rfl) 363 _ rfl (Z+1) 0 rfl cs _ (fun _ h=>h.2.1) N rfl M) a ?_
           simp only[sP];refine AV 10 a ?_;simp only[sP];refine qF (rs:=[11]) kr sM ?_;refine sH (o:=_) rfl (fun K A=>?_) wu;go_simp;refine(IM.out _).mono ?_;rintro e x1 ⟨rfl,X⟩;go_wp2_with fail;have a:=Zj.out x1 (t2 a.2.2.2.2.2 X);refine A.out _ _ a (fun _=>?_);clear A K X;try simp only[sP]
           refine AV 12 a ?_;simp only[sP])
      all_goals (refine AV 13 a ?_;simp only[sP];refine AV 14 a ?_;simp only[sP])
      all_goals ((first | refine Wu 15 rfl a ?_ | refine AV 15 a ?_);simp only[sP];(first | refine Wu 16 rfl a ?_ | refine AV 16 a ?_);simp only[sP];(first | refine Wu 17 rfl a ?_ | refine AV 17 a ?_);simp only[sP])
      all_goals (refine AV 18 a ?_;simp only[sP];refine AV 19 a ?_;simp only[sP])
      all_goals ((first | refine Wu 20 rfl a ?_ | refine AV 20 a ?_);simp only[sP];(first | refine Wu 21 rfl a ?_ | refine AV 21 a ?_);simp only[sP];(first | refine Wu 23 rfl a ?_ | refine AV 23 a ?_);simp only[sP])
      all_goals first
        | (refine Wu 22 rfl a ?_;simp only[sP])
        | (refine qF (rs:=[22]) kr sM ?_
           refine sH (o:=_) rfl (fun K A=>?_) wu;go_simp;refine(CV _ _).mono ?_;rintro e x2 ⟨rfl,rfl⟩;go_wp2_with fail;refine A.out _ _ a (fun _=>?_);clear A K;try simp only[sP])
      all_goals ((first | refine Wu 24 rfl a ?_ | refine AV 24 a ?_);simp only[sP];refine AV 25 a ?_;simp only[sP];refine Ij kr ?_ _)
      all_goals
        have B9:=a.2.2.2.2.2;have BB:=jH (t2 B1.out B9);have r0:=(R1.out.below B9).c0;have r1:=(R1.out.below B9).c1;have r2:=(R1.out.below B9).c2;have rf:=fun i=>(R1.out.below B9).fr i;have p0:=a.2.2.1;have p1:=a.2.2.2.1;have p2:=a.2.2.2.2.1;go_wp2_with fail
      all_goals first
        | (have HF:Hid (bC s.B _=false):=HE.out
           refine bf (v:=.tuple #[CS ⟨0,0,0⟩,.bool false]) (by simp[results,results303,go_sem,CS,r0,r1,r2]) rfl ⟨⟨⟨0,0,0⟩,by rw[HF.out],fun h=>by rw[HF.out]at h;cases h⟩,?_⟩)
        | (have HF:Hid (bC s.B _=true):=HE.out
           refine bf (v:=.tuple #[CS ⟨f,l,u⟩,.bool true]) (by simp[results,results303,go_sem,CS,r0,r1,r2]) rfl ⟨⟨⟨f,l,u⟩,by rw[HF.out],fun _=>HX.out.symm⟩,?_⟩)
      all_goals exact((BB.out.setCell (by rw[<- HZ.out];exact bJ _) _).setCell (by rw[<- HZ.out];exact bJ _) _).setCell (by rw[<- HZ.out];exact bJ _) _
end Go.Proofs.YtnogmjekhjldcaaGreatDoor
