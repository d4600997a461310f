/-
  What the claimed theorem reaches, part Q35.
-/
import Derived.Test.YtabndgfdbdjdgaaGreatDoorQ34
import Derived.Deep.RegionHeld3
import Derived.Deep.DeepCutAuto
import Derived.Deep.CutRange
import Derived.Test.YtabndgfdbdjdgaaGreatDoorQ00
namespace Go.Proofs.YtabndgfdbdjdgaaGreatDoor
open Go.RowKit
set_option maxRecDepth 100000
set_option maxHeartbeats 8000000
theorem sreads_law (x:ByteArray) (v1:Value) (L:List ByteArray) (s:Nat->Addr) (w:World) (E:EnvL w s) (Nm:PNm w) (Sn:Sents w s) (LI:WsI w v1 L) :
    Calls Tryz.prog 3 #[.string x,v1] w fun e w'=>e=.returned (.bool true)/\Below w w w':=by
  obtain⟨p,cap,rfl,hcl,hw⟩:=LI
  have HE:Hid (EnvL w s/\PNm w/\Sents w s):=⟨E,Nm,Sn⟩
  have HL:Hid (∀(j:Nat) y,L[j]? = some y->∃Z o,p=some ⟨Z,o,none⟩/\w.cell? ⟨Z,o+j,none⟩=some (.string y)):=hw
  clear E Nm Sn hw
  go_enter Tryz.func3,Tryz.ntmps3
  go_wp2_with fail
  refine(hello_any HE.1 HE.2.1).mono ?_
  rintro e w2 ⟨rfl,b2⟩
  have B2:Hid (Below w w w2):=b2
  clear b2
  by_cases hall:x.size<=2000/\L.length<=110
  rotate_left
  · have hor:(2000:Int) < (x.size:Int)\/((x.size:Int)<=2000/\(110:Int) < (L.length:Int)):=by omega
    clear hall
    rcases hor with h | ⟨h1,h⟩
    all_goals
      go_wp2_with fail
      go_ret
      exact⟨rfl,B2⟩
  have HN:Hid (x.size<=2000/\L.length<=110):=hall
  have n1:¬(2000:Int) < (x.size:Int):=by omega
  have n2:¬(110:Int) < (L.length:Int):=by omega
  clear hall hcl
  obtain⟨i0,hi,hz0,hz1,hz2⟩:=info_parts Tryz.infoS
  have HI:Hid (Tryz.prog.info? 9=some i0/\i0.zero=some (.string ByteArray.empty)/\i0.size=1/\i0.bytes=16):=⟨hi,hz0,hz1,hz2⟩
  clear hi hz0 hz1 hz2
  go_wp2_with fail
  go_loopw [6,7] (fun v6 v7 wr=>∃i:Nat,i<=L.length/\v7=.int .i64 i/\OwL w2 wr v6 (L.take i)) (fun _ v7 _=>L.length - (intOf v7).toNat)
  case atStart=>exact⟨0,by omega,rfl,World.ownsRow_nil _ _ _ _,Below.refl _ _,fun z hz=>by simp at hz⟩
  case round =>
    obtain⟨i,hi,rfl,ow⟩:=hrel
    have HO:Hid (OwL w2 wr u6 (L.take i)):=ow
    have n110:=HN.2
    clear ow
    by_cases hlt:i < L.length
    · obtain⟨y,hy⟩:∃y,L[i]? = some y:=⟨L[i],List.getElem?_eq_getElem hlt⟩
      obtain⟨b,o,rfl,c0⟩:=HL.out i y hy
      have HBW:Hid (Below w w wr):=t2 B2 HO.bl
      have c0':=tk HBW c0
      have k0:(0:Int)<=(i:Int):=by omega
      have k1:(i:Int) < (L.length:Int):=by omega
      have HTK:Hid (L.take (i+1)=L.take i++[y]):=by
        show L.take (i+1)=_
        rw[List.take_add_one,hy]
        rfl
      obtain⟨G,hG⟩:∃G,L.take i=G:=⟨_,rfl⟩
      rw[hG]at HO HTK
      have hgl:G.length<=110:=by rw[<- hG,List.length_take];omega
      clear hy c0 hG
      have hsl:=slice4 y
      by_cases h60:60 < y.size
      · have h60':(60:Int) < (y.size:Int):=by omega
        go_wp2_with fail
        go_ret
        exact⟨rfl,HBW⟩
      have h60':¬(60:Int) < (y.size:Int):=by omega
      by_cases h10:10 < y.size
      · have h10':(10:Int) < (y.size:Int):=by omega
        have hs:=hsl h10
        clear hsl
        have e4:=ext4_list y
        obtain⟨t4,ht4⟩:∃t4,y.extract 0 4=t4:=⟨_,rfl⟩
        rw[ht4]at hs e4
        clear ht4
        by_cases htk:y.data.toList.take 4=[116,105,99,107]
        · have htk':(t4.toList==[116,105,99,107])=true:=by rw[e4,htk];rfl
          clear e4 htk
          go_wp2_with fail
          go_ret
          exact⟨rfl,HBW⟩
        · have htk':(t4.toList==[116,105,99,107])=false:=beq_eq_false_iff_ne.2 (by rw[e4];exact htk)
          have HF:Hid (FitL y):=⟨by omega,.inr htk⟩
          clear e4 htk
          go_wp2_with (at_builtin;refine wpList_append_own _ rfl _ _ 22 rfl w2 9 i0 (.string ByteArray.empty) 1 16 Tryz.underlying22 HI.1 HI.2.1 HI.2.2.1 HI.2.2.2 rfl (by decide) _ _ _ rfl (HO.own.alloc _) ⟨wr.heap.size,0,none⟩ 1 1 [.string y] rfl rfl ?c1 ?c2 ?c3 ?c4 ?c5 ?_)
          case c2=>rfl
          case c3=>unfold maxLen;omega
          case c4=>omega
          case c5=>have:=HO.bl.size;simp;omega
          intro v' w6 hown' hgrow hlen'
          have R:Hid (OwL w2 w6 v' (L.take (i+1))):=by
            show OwL w2 w6 v' (L.take (i+1))
            rw[HTK.out]
            exact HO.more HF hown' hgrow
          clear hown' hgrow hlen'
          go_wp2_with fail
          exact⟨⟨i+1,by omega,by go_num,R⟩,by simp[intOf];omega⟩
      · have h10':¬(10:Int) < (y.size:Int):=by omega
        have HF:Hid (FitL y):=⟨by omega,.inl (by omega)⟩
        clear hsl
        go_wp2_with (at_builtin;refine wpList_append_own _ rfl _ _ 22 rfl w2 9 i0 (.string ByteArray.empty) 1 16 Tryz.underlying22 HI.1 HI.2.1 HI.2.2.1 HI.2.2.2 rfl (by decide) _ _ _ rfl (HO.own.alloc _) ⟨wr.heap.size,0,none⟩ 1 1 [.string y] rfl rfl ?c1 ?c2 ?c3 ?c4 ?c5 ?_)
        case c2=>rfl
        case c3=>unfold maxLen;omega
        case c4=>omega
        case c5=>have:=HO.bl.size;simp;omega
        intro v' w6 hown' hgrow hlen'
        have R:Hid (OwL w2 w6 v' (L.take (i+1))):=by
          show OwL w2 w6 v' (L.take (i+1))
          rw[HTK.out]
          exact HO.more HF hown' hgrow
        clear hown' hgrow hlen'
        go_wp2_with fail
        exact⟨⟨i+1,by omega,by go_num,R⟩,by simp[intOf];omega⟩
    · obtain rfl:i=L.length:=by omega
      have HT:Hid (L.take L.length=L):=List.take_length
      rw[HT.out]at HO
      clear HT
      obtain⟨vp,vc,rfl,hvc,hvn,hvr⟩:=own_ws HO.own
      have HV:Hid (∀(j:Nat) y,L[j]? = some y->∃b o,vp=some ⟨b,o,none⟩/\wr.cell? ⟨b,o+j,none⟩=some (.string y)):=hvr
      clear hvr hvn
      have HWR:Hid (Below w w wr):=t2 B2 HO.bl
      have WS:Hid (WsI wr (.slice vp L.length vc) L/\(∀z ∈ L,FitL z)):=⟨⟨vp,vc,rfl,hvc,HV⟩,HO.ft⟩
      have hvc':(L.length:Int)<=(vc:Int):=by omega
      clear HV HO hvc
      by_cases h100:L.length<=100
      · rcases text_two s x with⟨l,hRl,hRf⟩ | ⟨hB,hBf⟩
        · have HT:Hid (RdL s x l/\∀(u:World) (v:Value) (f:Int×Int),RfV u x v f->f=(0,-1)):=⟨hRl,hRf⟩
          have h100':¬(100:Int) < (L.length:Int):=by omega
          clear hRl hRf
          go_upto_region 11 with fail
          go_wp2_with fail
          refine(run_sc (HE.1.below HWR) (HE.2.1.below HWR) x l HT.1 L _ WS.1 (by omega) (fun z hz=>by have:=(WS.2 z hz).1;omega) (by
            have:=sc_cost L (fun z hz=>ln_cost (WS.2 z hz).2)
            omega)).mono ?_
          rintro e w4 ⟨Z,rfl,hza,b4⟩
          have H4:Hid (AnsS w4 Z (scA L (Wo.born l)) L.length/\Below w w w4):=⟨hza,t2 HWR b4⟩
          clear hza b4
          go_wp2_with fail
          refine(rof_any x _).mono ?_
          rintro e w5 ⟨⟨v5,f5,rfl,hf5⟩,b5⟩
          obtain rfl:=HT.2 _ _ _ hf5
          have H5:Hid (AnsS w5 Z (scA L (Wo.born l)) L.length/\Below w w w5):=⟨by
            show w5.heap[Z]? = _
            exact(b5.block Z (block_in H4.1)).trans H4.1,t2 H4.2 b5⟩
          clear hf5 b5 H4
          simp only
          have H6:Hid (AnsS (w5.alloc (.cells #[.int .i64 0,.int .i64 (-1)] 30)) Z (scA L (Wo.born l)) L.length/\Below w w (w5.alloc (.cells #[.int .i64 0,.int .i64 (-1)] 30))):=⟨by
            show(w5.alloc _).heap[Z]? = _
            exact((aB w5 _).block Z (block_in H5.1)).trans H5.1,t2 H5.2 (aB _ _)⟩
          clear H5
          go_wp2_with fail
          generalize w5.alloc (.cells #[.int .i64 0,.int .i64 (-1)] 30)=w6 at *
          generalize w5.heap.size=fb at *
          go_loopw [12,13,14,15,16,17,18,19] (fun v12 _ _ _ _ _ _ _ u=>∃i:Nat,i<=L.length/\v12=.int .i64 i/\Below w6 w6 u) (fun v12 _ _ _ _ _ _ _ _=>L.length - (intOf v12).toNat)
          case atStart=>exact⟨0,by omega,rfl,Below.refl _ _⟩
          case round =>
            obtain⟨i,hi,rfl,b7⟩:=hrel
            have HB:Hid (Below w6 w6 wr):=b7
            clear b7
            by_cases hlt:i < L.length
            · obtain⟨y,hy⟩:∃y,L[i]? = some y:=⟨L[i],List.getElem?_eq_getElem hlt⟩
              obtain⟨b,o,rfl,c0⟩:=HL.out i y hy
              obtain⟨V,hV⟩:=scA_at L (Wo.born l) i y hy
              obtain⟨a,ha⟩:∃a,saidT (lnR y V).1=a:=⟨_,rfl⟩
              rw[ha]at hV
              have HA:Hid (AnOk y a):=by
                show AnOk y a
                rw[<- ha];exact an_ok y V
              have HBW:Hid (Below w w wr):=t2 H6.2 HB
              have ca:wr.cell? (Z,i)=some (.string a):=tk HB (H6.1.at hV)
              have c0':=tk HBW c0
              have hy60:=(WS.2 y (List.mem_of_getElem? hy)).1
              have k0:(0:Int)<=(i:Int):=by omega
              have k1:(i:Int) < (L.length:Int):=by omega
              clear hy c0 hV ha
              go_wp2_with fail
              go_loopw [13,14] (fun v13 v14 u=>∃(k:Nat) (Wd:List UInt8),k<=y.size/\v14=.int .i64 k/\v13=.string ⟨Wd.toArray⟩/\Wd.length<=k/\Wd++(y.data.toList.drop k).takeWhile (fun b=>b != 32)=twW y/\u=wr) (fun _ v14 _=>y.size - (intOf v14).toNat)
              case atStart=>exact⟨0,[],by omega,rfl,rfl,by simp,rfl,rfl⟩
              case round =>
                obtain⟨k,Wd,hk,rfl,rfl,hWl,hW,rfl⟩:=hrel
                have HW:Hid (Wd++(y.data.toList.drop k).takeWhile (fun b=>b != 32)=twW y):=hW
                clear hW
                have kk0:(0:Int)<=(k:Int):=by omega
                go_upto_region 24 with fail
                go_cut [125] (fun s125 wx=>s125=.bool (tst y k)/\wr=wx)
                case first =>
                  by_cases hkl:k < y.size
                  · have kk1:(k:Int) < (y.size:Int):=by omega
                    by_cases he:y[k]=32
                    · have hq:((y[k].toNat:Int)==32)=true:=beq_iff_eq.2 (by rw[he];rfl)
                      have hq2:(y[k] != 32)=false:=by rw[he];rfl
                      have hq3:tst y k=_:=(tst_at hkl).trans hq2
                      clear hq2
                      go_wp2_with fail
                      go_meet
                      exact⟨by rw[hq3],rfl⟩
                    · have hq:((y[k].toNat:Int)==32)=false:=beq_eq_false_iff_ne.2 (fun e=>he (UInt8.toNat_inj.1 (by show y[k].toNat=32;omega)))
                      have hqn:((y[k].toNat:Int) != 32)=true:=bne_iff_ne.2 (beq_eq_false_iff_ne.1 hq)
                      have hq2:(y[k] != 32)=true:=bne_iff_ne.2 he
                      have hq3:tst y k=_:=(tst_at hkl).trans hq2
                      clear hq2
                      go_wp2_with fail
                      go_meet
                      exact⟨by rw[hq3],rfl⟩
                  · have kk1:¬(k:Int) < (y.size:Int):=by omega
                    go_wp2_with fail
                    go_meet
                    exact⟨by rw[tst_end hkl],rfl⟩
                obtain⟨rfl,rfl⟩:=hcut
                cases htst:tst y k with
                | true =>
                  obtain⟨hkl,he⟩:=tst_yes htst
                  have kk1:(k:Int) < (y.size:Int):=by omega
                  have hd:y.data.toList.drop k=y[k]::y.data.toList.drop (k+1):=by
                    rw[List.drop_eq_getElem_cons (by rw[bytes_len];exact hkl)];rfl
                  have HW2:Hid ((Wd++[y[k]])++(y.data.toList.drop (k+1)).takeWhile (fun b=>b != 32)=twW y):=by
                    show _=_
                    rw[<- HW.out,hd,List.takeWhile_cons,if_pos (bne_iff_ne.2 he),List.append_assoc]
                    rfl
                  have sl:∀v:World,(Instr.slice 9 (.string y) (some (.int .i64 k)) (some (.int .i64 ((k:Int)+1))) none).run Tryz.prog v=.ok (.string ⟨#[y[k]]⟩) v:=by
                    intro v
                    rw[run_slice_string v 9 y .i64 .i64 k ((k:Int)+1) Tryz.underlying9 (by omega) (by omega) (by omega),one_byte y k hkl]
                  clear hd HW
                  go_wp2_with fail
                  go_roundw
                  case rel=>exact⟨k+1,Wd++[y[k]],by omega,by go_num,congrArg Value.string (by apply ByteArray.ext;simp[ByteArray.data_append]),by simp;omega,HW2,trivial⟩
                  case measure=>simp[intOf];omega
                | false =>
                  have hWd:Wd=twW y:=by
                    rw[<- HW.out,tst_no htst,List.append_nil]
                  obtain⟨hd,hhd⟩:∃hd,hdW y=hd:=⟨_,rfl⟩
                  have hWv:(⟨Wd.toArray⟩:ByteArray)=hd:=by rw[hWd,<- hdW_eq,hhd]
                  rw[hWv]
                  have HD:Hid (hdW y=hd/\hd.size<=y.size):=⟨hhd,by rw[<- hhd,hdW_eq];exact Nat.le_trans (Nat.le_of_eq List.size_toArray) (tw_le y)⟩
                  have HA2:Hid (Ne0 a/\(cmdK hd=none->a=etx 0)/\∀k,cmdK hd=some k->fmk k=4->rdP ⟨(rsT y).toArray⟩=none->a=etx 0):=by
                    have:=HA.out
                    refine⟨this.ne,?_,?_⟩
                    · rw[<- hhd];exact this.no
                    · rw[<- hhd];exact this.pk
                  have ea:=ne0_list HA.ne
                  obtain⟨tx,htx⟩:∃tx,etx 0=tx:=⟨_,rfl⟩
                  have HER:Hid (∀w0:World,Calls Tryz.prog 10 #[.int .i64 1] w0 fun e w'=>e=.returned (.string tx)/\Below w0 w0 w'):=fun w0=>by rw[<- htx];exact errText_1 w0
                  have ett:(tx.toList==tx.toList)=true:=beq_self_eq_true _
                  rw[htx]at HA2
                  clear HW hWl hWd hWv hhd htst HA htx
                  go_wp2_with fail
                  refine(formOf_any hd _).mono ?_
                  rintro e w8 ⟨rfl,hw8⟩
                  obtain rfl:=hw8.symm
                  clear hw8
                  obtain⟨fo,hfo⟩:∃fo,fmO hd=fo:=⟨_,rfl⟩
                  rw[hfo]
                  clear hfo
                  cases hck:cmdK hd with
                  | none =>
                    have haT:=HA2.2.1 hck
                    subst haT
                    have e7:(hd.toList==[105,110,115,105,100,101])=false:=hd_lit (k:=7) (by omega) (.inl hck)
                    have e8:(hd.toList==[111,117,116,115,105,100,101])=false:=hd_lit (k:=8) (by omega) (.inl hck)
                    simp only[Option.isSome_none]
                    clear hck HA2
                    have hS:wr.drew.cell? (Z,i)=some (.string a)/\Below wr wr wr.drew:=⟨ca,(Below.refl _ _).drew⟩
                    go_wp2_with fail
                    go_region_held3 (fun w'=>w'.cell? (Z,i)=some (.string a)/\Below wr wr w') (first | assumption | exact⟨tk hb1 hS.1,t2 hS.2 hb1⟩)
                      (first | (go_at_call 10;refine(HER _).mono ?_;rintro e w9 ⟨rfl,hb1⟩))
                    have HB9:Hid (Below w6 w6 w9):=t2 HB (t2 hS.2 hb1)
                    clear hS
                    go_wp2_with fail
                    exact⟨⟨i+1,by omega,by go_num,HB9⟩,by simp[intOf];omega⟩
                  | some kc =>
                    have HK:Hid (kc < 18/\cmdK hd=some kc):=⟨(cmdK_some hck).1,hck⟩
                    simp only[Option.isSome_some]
                    by_cases h78:kc=7\/kc=8
                    · have hte:∃b7 b8:Bool,(hd.toList==[105,110,115,105,100,101])=b7/\(hd.toList==[111,117,116,115,105,100,101])=b8/\(b7 || b8)=true:=⟨_,_,rfl,rfl,by
                        have:=(cmdK_some hck).2
                        rcases h78 with rfl | rfl
                        · rw[<- this];decide +kernel
                        · rw[<- this];decide +kernel⟩
                      obtain⟨b7,b8,e7,e8,e78⟩:=hte
                      have HPK:Hid (rdP ⟨(rsT y).toArray⟩=none->a=tx):=HA2.2.2 kc hck (by rcases h78 with rfl | rfl <;> rfl)
                      clear hck HA2 h78 HK
                      go_upto_region 28 with fail
                      go_cut [159] (fun s159 wx=>s159=.bool false/\Below wr wr wx)
                      case first =>
                        go_wp2_with fail
                        go_region
                        go_wp2_with fail
                        all_goals go_meet
                        all_goals exact⟨rfl,(Below.refl _ _).drew⟩
                      obtain⟨rfl,b9⟩:=hcut
                      obtain⟨w9,hw9⟩:∃w9,w9=wc:=⟨_,rfl⟩
                      subst hw9
                      have HX:Hid (Below wr wr w9):=b9
                      clear b9
                      go_upto_region 30 with fail
                      go_cut [165] (fun s165 wy=>s165=.bool true/\w9=wy)
                      case first =>
                        cases b7 <;> cases b8
                        all_goals first
                          | (exact absurd e78 (by decide))
                          | (go_wp2_with fail
                             all_goals go_meet
                             all_goals exact⟨rfl,rfl⟩)
                      obtain⟨rfl,rfl⟩:=hcut
                      clear e7 e8 e78
                      have c0'':=tk HX c0'
                      have ca':=tk HX ca
                      obtain⟨rs,hrs⟩:∃rs,(⟨(rsT y).toArray⟩:ByteArray)=rs:=⟨_,rfl⟩
                      have HRS:Hid (hd.size < y.size->y.extract (hd.size+1) y.size=rs):=fun h=>by
                        rw[<- hrs,<- HD.1]
                        exact rest_ext y (by rw[HD.1];exact h)
                      have HRN:Hid (¬hd.size < y.size->(⟨#[]⟩:ByteArray)=rs):=fun h=>by
                        rw[<- hrs]
                        exact rest_none y (by rw[HD.1];exact h)
                      rw[hrs]at HPK
                      have hrz:rs.size<=60:=by
                        rw[<- hrs]
                        show(rsT y).toArray.size<=60
                        have:y.data.toList.length=y.size:=Array.length_toList
                        unfold rsT
                        rw[List.size_toArray,List.length_drop]
                        omega
                      have HEX:Hid (EnvL w9 s/\Below w6 w6 w9):=⟨HE.1.below (t2 HBW HX),t2 HB HX⟩
                      clear hrs
                      by_cases hl2:hd.size < y.size
                      · have hl2':(hd.size:Int) < (y.size:Int):=by omega
                        have hw1:IntKind.i64.wrap ((hd.size:Int)+1)=(hd.size:Int)+1:=by rw[IntKind.wrap_i64];omega
                        have hsl:∀v:World,(Instr.slice 9 (.string y) (some (.int .i64 ((hd.size:Int)+1))) none none).run Tryz.prog v=.ok (.string rs) v:=fun v=>by
                          have h1:(0:Int)<=(hd.size:Int)+1:=by omega
                          have h2:(hd.size:Int)+1<=(y.size:Int):=by omega
                          have h3:=HRS.out hl2
                          simp[Instr.slice,run_underlying Tryz.underlying9,go_sem,h1,h2,h3]
                        rcases hr:rdP rs with _ | pk
                        · have HP:Hid (Calls Tryz.prog 11 #[.string rs] w9 fun e w'=>e=.returned (.tuple #[noP.v,.iface 312 (.pointer (some (s 0)))])/\Below w9 w9 w'):=by
                            have:=pkread_any rs (by omega) s w9 HEX.1
                            rw[hr]at this
                            exact this
                          have hat:a=tx:=HPK.out hr
                          subst hat
                          clear hr
                          go_wp2_with fail
                          refine HP.mono ?_
                          rintro e w10 ⟨rfl,b10⟩
                          have ca10:=tk b10 ca'
                          have H10:Hid (Below w6 w6 w10):=t2 HEX.2 b10
                          clear b10 HP
                          simp only[Pk.v]
                          go_upto_region 35 with fail
                          have ca11:(w10.alloc (.cells #[noP.pr,noP.a1,noP.p1,noP.a2,noP.p2,noP.fl] 41)).cell? (Z,i)=some (.string a):=tk (aB _ _) ca10
                          have H11:Hid (Below w6 w6 (w10.alloc (.cells #[noP.pr,noP.a1,noP.p1,noP.a2,noP.p2,noP.fl] 41))):=t2 H10 (aB _ _)
                          clear H10 ca10
                          generalize w10.alloc (.cells #[noP.pr,noP.a1,noP.p1,noP.a2,noP.p2,noP.fl] 41)=w11 at *
                          generalize w10.heap.size=pb10 at *
                          have hS:w11.drew.cell? (Z,i)=some (.string a)/\Below w11 w11 w11.drew:=⟨ca11,(Below.refl _ _).drew⟩
                          go_wp2_with fail
                          go_region_held3 (fun w'=>w'.cell? (Z,i)=some (.string a)/\Below w11 w11 w') (first | assumption | exact⟨tk hb1 hS.1,t2 hS.2 hb1⟩)
                            (first | (go_at_call 10;refine(HER _).mono ?_;rintro e w12 ⟨rfl,hb1⟩))
                          have HB9:Hid (Below w6 w6 w12):=t2 H11 (t2 hS.2 hb1)
                          clear hS
                          go_wp2_with fail
                          exact⟨⟨i+1,by omega,by go_num,HB9⟩,by simp[intOf];omega⟩
                        · have HP:Hid (Calls Tryz.prog 11 #[.string rs] w9 fun e w'=>e=.returned (.tuple #[pk.v,.nilIface])/\Below w9 w9 w'):=by
                            have:=pkread_any rs (by omega) s w9 HEX.1
                            rw[hr]at this
                            exact this
                          clear hr
                          go_wp2_with fail
                          refine HP.mono ?_
                          rintro e w10 ⟨rfl,b10⟩
                          have H10:Hid (Below w6 w6 w10):=t2 HEX.2 b10
                          clear b10 HP
                          simp only[Pk.v]
                          go_wp2_with fail
                          go_region
                          have HB9:Hid (Below w6 w6 (w10.alloc (.cells #[pk.pr,pk.a1,pk.p1,pk.a2,pk.p2,pk.fl] 41)).drew):=t2 (t2 H10 (aB _ _)) (Below.refl _ _).drew
                          go_wp2_with fail
                          exact⟨⟨i+1,by omega,by go_num,HB9⟩,by simp[intOf];omega⟩
                      · have hl2':¬(hd.size:Int) < (y.size:Int):=by omega
                        have hrn:=HRN.out hl2
                        clear HRN HRS hl2
                        subst hrn
                        obtain⟨rs,hrs⟩:∃rs,(⟨#[]⟩:ByteArray)=rs:=⟨_,rfl⟩
                        rw[hrs]at HPK hrz
                        go_upto_region 34 with fail
                        rw[hrs]
                        clear hrs
                        rcases hr:rdP rs with _ | pk
                        · have HP:Hid (Calls Tryz.prog 11 #[.string rs] w9 fun e w'=>e=.returned (.tuple #[noP.v,.iface 312 (.pointer (some (s 0)))])/\Below w9 w9 w'):=by
                            have:=pkread_any rs (by omega) s w9 HEX.1
                            rw[hr]at this
                            exact this
                          have hat:a=tx:=HPK.out hr
                          subst hat
                          clear hr
                          go_wp2_with fail
                          refine HP.mono ?_
                          rintro e w10 ⟨rfl,b10⟩
                          have ca10:=tk b10 ca'
                          have H10:Hid (Below w6 w6 w10):=t2 HEX.2 b10
                          clear b10 HP
                          simp only[Pk.v]
                          go_upto_region 35 with fail
                          have ca11:(w10.alloc (.cells #[noP.pr,noP.a1,noP.p1,noP.a2,noP.p2,noP.fl] 41)).cell? (Z,i)=some (.string a):=tk (aB _ _) ca10
                          have H11:Hid (Below w6 w6 (w10.alloc (.cells #[noP.pr,noP.a1,noP.p1,noP.a2,noP.p2,noP.fl] 41))):=t2 H10 (aB _ _)
                          clear H10 ca10
                          generalize w10.alloc (.cells #[noP.pr,noP.a1,noP.p1,noP.a2,noP.p2,noP.fl] 41)=w11 at *
                          generalize w10.heap.size=pb10 at *
                          have hS:w11.drew.cell? (Z,i)=some (.string a)/\Below w11 w11 w11.drew:=⟨ca11,(Below.refl _ _).drew⟩
                          go_wp2_with fail
                          go_region_held3 (fun w'=>w'.cell? (Z,i)=some (.string a)/\Below w11 w11 w') (first | assumption | exact⟨tk hb1 hS.1,t2 hS.2 hb1⟩)
                            (first | (go_at_call 10;refine(HER _).mono ?_;rintro e w12 ⟨rfl,hb1⟩))
                          have HB9:Hid (Below w6 w6 w12):=t2 H11 (t2 hS.2 hb1)
                          clear hS
                          go_wp2_with fail
                          exact⟨⟨i+1,by omega,by go_num,HB9⟩,by simp[intOf];omega⟩
                        · have HP:Hid (Calls Tryz.prog 11 #[.string rs] w9 fun e w'=>e=.returned (.tuple #[pk.v,.nilIface])/\Below w9 w9 w'):=by
                            have:=pkread_any rs (by omega) s w9 HEX.1
                            rw[hr]at this
                            exact this
                          clear hr
                          go_wp2_with fail
                          refine HP.mono ?_
                          rintro e w10 ⟨rfl,b10⟩
                          have H10:Hid (Below w6 w6 w10):=t2 HEX.2 b10
                          clear b10 HP
                          simp only[Pk.v]
                          go_wp2_with fail
                          go_region
                          have HB9:Hid (Below w6 w6 (w10.alloc (.cells #[pk.pr,pk.a1,pk.p1,pk.a2,pk.p2,pk.fl] 41)).drew):=t2 (t2 H10 (aB _ _)) (Below.refl _ _).drew
                          go_wp2_with fail
                          exact⟨⟨i+1,by omega,by go_num,HB9⟩,by simp[intOf];omega⟩
                    · have e7:(hd.toList==[105,110,115,105,100,101])=false:=hd_lit (k:=7) (by omega) (.inr ⟨kc,hck,fun e=>h78 (.inl e)⟩)
                      have e8:(hd.toList==[111,117,116,115,105,100,101])=false:=hd_lit (k:=8) (by omega) (.inr ⟨kc,hck,fun e=>h78 (.inr e)⟩)
                      clear hck HA2 h78
                      go_wp2_with fail
                      go_region
                      have HB9:Hid (Below w6 w6 wr.drew):=t2 HB (Below.refl _ _).drew
                      go_wp2_with fail
                      exact⟨⟨i+1,by omega,by go_num,HB9⟩,by simp[intOf];omega⟩
            · obtain rfl:i=L.length:=by omega
              have HBE:Hid (Below w w wr):=t2 H6.2 HB
              go_wp2_with fail
              go_ret
              exact⟨rfl,HBE⟩
        · have HT:Hid (BdL s x/\∀(u:World) (v:Value) (f:Int×Int),RfV u x v f->0 < f.1):=⟨hB,hBf⟩
          have h100':¬(100:Int) < (L.length:Int):=by omega
          clear hB hBf
          go_wp2_with fail
          refine(run_bad (HE.1.below HWR) (HE.2.1.below HWR) x HT.1 vp L.length vc (by omega)).mono ?_
          rintro e w4 ⟨⟨y4,rfl,hrd⟩,b4⟩
          have H4:Hid (RdV s w4 x (.slice none 0 0) y4/\Below w w w4):=⟨hrd,t2 HWR b4⟩
          clear hrd b4
          go_wp2_with fail
          refine(rof_any x _).mono ?_
          rintro e w5 ⟨⟨v5,f5,rfl,hf5⟩,b5⟩
          have hpos:=HT.2 _ _ _ hf5
          have HF:Hid (∀W',Below w4 w4 W'->Sents W' s->Calls Tryz.prog 8 #[y4,.agg #[f5.1,f5.2]] W' fun e w'=>e=.returned (.bool true)/\Below W' W' w'):=fun W' hb S=>reads_bad H4.1 hf5 W' hb S
          have HB5:Hid (Below w4 w4 w5):=b5
          clear hf5 b5
          obtain⟨fc,fa⟩:=f5
          simp only at hpos HF ⊢
          have HB6:Hid (Below w5 w5 (w5.alloc (.cells #[fc,fa] 30))):=aB _ _
          go_wp2_with fail
          refine(HF _ (t2 HB5 HB6) (HE.2.2.below (t2 H4.2 (t2 HB5 HB6)))).mono ?_
          rintro e w7 ⟨rfl,b7⟩
          have HB7:Hid (Below w w w7):=t2 H4.2 (t2 HB5 (t2 HB6 b7))
          clear b7
          go_wp2_with fail
          go_ret
          exact⟨rfl,HB7⟩
      · have h100':(100:Int) < (L.length:Int):=by omega
        go_wp2_with fail
        refine(run_many (HE.1.below HWR).e.s x vp L.length vc (by omega)).mono ?_
        rintro e w4 ⟨rfl,b4⟩
        have H4:Hid (Below w w w4):=t2 HWR b4
        clear b4
        go_wp2_with fail
        refine(rof_any x _).mono ?_
        rintro e w5 ⟨⟨v5,f5,rfl,hf5⟩,b5⟩
        have HB5:Hid (Below w w w5):=t2 H4 b5
        clear hf5 b5
        obtain⟨fc,fa⟩:=f5
        simp only
        have HB6:Hid (Below w5 w5 (w5.alloc (.cells #[fc,fa] 30))):=aB _ _
        have z0:(w5.alloc (.cells #[fc,fa] 30)).cell? (w5.heap.size,0)=fc:=by simp
        have z1:(w5.alloc (.cells #[fc,fa] 30)).cell? (w5.heap.size,1)=fa:=by simp
        go_wp2_with fail
        refine(bare_any 2 _).mono ?_
        rintro e w7 ⟨rfl,b7⟩
        have z0':=tk b7 z0
        have z1':=tk b7 z1
        have HB7:Hid (Below w w w7/\w5.heap.size < w7.heap.size):=⟨t2 HB5 (t2 HB6 b7),tlt z0'⟩
        have g0:w7.frozen? (w5.heap.size,0)=false:=by
          rw[b7.frozen (p:=⟨w5.heap.size,0,none⟩) (tlt z0),World.frozen?_alloc_at _ _ _ _ rfl]
        have g1:w7.frozen? (w5.heap.size,1)=false:=by
          rw[b7.frozen (p:=⟨w5.heap.size,1,none⟩) (tlt z1),World.frozen?_alloc_at _ _ _ _ rfl]
        have hw5:w.heap.size<=w5.heap.size:=HB5.size
        have HB8:Hid (Below w w ((w7.setCell (w5.heap.size,0) (.int .i64 2)).setCell (w5.heap.size,1) (.int .i64 (-1)))):=(HB7.1.setCell (by exact hw5) _).setCell (by exact hw5) _
        clear b7 z0 z1 hw5
        have HF:Hid (Calls Tryz.prog 8 #[errV s 2,.agg #[.int .i64 2,.int .i64 (-1)]] ((w7.setCell (w5.heap.size,0) (.int .i64 2)).setCell (w5.heap.size,1) (.int .i64 (-1))) fun e w'=>e=.returned (.bool true)/\Below ((w7.setCell (w5.heap.size,0) (.int .i64 2)).setCell (w5.heap.size,1) (.int .i64 (-1))).heap.size ((w7.setCell (w5.heap.size,0) (.int .i64 2)).setCell (w5.heap.size,1) (.int .i64 (-1))) w'):=faulted3_sent 1 (by omega) s _ (HE.2.2.below HB8)
        go_wp2_with fail
        refine HF.mono ?_
        rintro e w9 ⟨rfl,b9⟩
        have HB9:Hid (Below w w w9):=t2 HB8 b9
        clear b9 HF HB8
        go_wp2_with fail
        go_ret
        exact⟨rfl,HB9⟩
end Go.Proofs.YtabndgfdbdjdgaaGreatDoor
