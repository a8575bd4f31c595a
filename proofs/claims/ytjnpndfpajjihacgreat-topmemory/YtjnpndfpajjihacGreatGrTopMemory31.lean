/-
  
-/
import Derived.Test.YtjnpndfpajjihacGreatTApart
import Derived.Test.YtjnpndfpajjihacGreatGrTopMemory23
import Derived.Deep.RegionHeld3
import Derived.Test.YtjnpndfpajjihacGreatRTake2
set_option maxRecDepth 100000
set_option maxHeartbeats 40000000
namespace Go.Proofs.YtjnpndfpajjihacGreat
open Go.RowKit
theorem zey (t:Tx):zba t=(zam t.seq 1 2147483647&&(zb4 t.info&&zb4 t.data)&&(zbg (blksOf t.info)&&zbg (blksOf t.data)&&zbg t.rev)&&decide (zkg t).Nodup&&(hdB t.h0&&hdB t.h1&&hdB t.h2)):=rfl
theorem zb5 (v:Value)(t:Tx)(w:World)(hT:IsTx w v t)(r1:t.info.length*24≤140737488355328)(r2:t.data.length*24≤140737488355328):
  Calls Tryz.prog 31 #[v] w fun e w'=>e=.returned (.bool (zba t))∧Below w.heap.size w w':=by
 obtain⟨a,c,a',c',r,d,rfl,hM,hD,hR,n1,n2,n3⟩:=hT;have HM:=zaa hM;have HD:=zaa hD;have HR:=zaa hR;have N1:=zaa n1;have N2:=zaa n2;have N3:=zaa n3;clear hM hD hR n1 n2 n3
 cases h0:zam t.seq 1 2147483647 with
 |false=>
  have HG:Hid (zba t=false):=by rw[Hid,zey,h0];rfl
  go_enter Tryz.func31,Tryz.ntmps31;go_wp2_with (go_at_call 59;refine(zay _ _ _ _).mono ?_;rintro e w' ⟨rfl,rfl⟩);go_ret;exact⟨by rw[HG.o];rfl,zab _ _⟩
 |true=>
  have H0:=zaa h0;go_enter Tryz.func31,Tryz.ntmps31;go_wp2_with (go_at_call 59;refine(zay _ _ _ _).mono ?_;rintro e w' ⟨rfl,rfl⟩);clear h0;refine(zud a c t.info _ (HM.o.below (zab _ _)) N1.o).mono ?_;rintro e w1 ⟨rfl,hb1⟩;have hs1:w.heap.size<w1.heap.size:=by have:=hb1.size;simp at this;omega
  have K1:=zaa (z2j hb1);obtain⟨⟨_,x1,x2,x3,_⟩,_⟩:=zai K1.o;have HB1:=zaa (zae (zab _ _) hb1);clear hb1
  cases h1:zb4 t.info with
  |false=>
   have HG:Hid (zba t=false):=by rw[Hid,zey,h1];simp
   go_wp2;go_ret;exact⟨by rw[HG.o];rfl,HB1.o⟩
  |true=>
   have H1:=zaa h1;clear h1;go_wp2_with fail;refine(zud a' c' t.data _ (HD.o.below HB1.o) N2.o).mono ?_;rintro e w2 ⟨rfl,hb2⟩;have hs2:w.heap.size<w2.heap.size:=by have:=hb2.size;omega
   have K2:=zaa (zad hb2 hs1 K1.o);have HB2:=zaa (zae HB1.o hb2);clear hb2 K1 x1 x2 x3 HB1;obtain⟨⟨x0,x1,x2,x3,x4,x5,x6,x7,x8,x9⟩,_⟩:=zai K2.o
   cases h2:zb4 t.data with
   |false=>
    have HG:Hid (zba t=false):=by rw[Hid,zey,h2];simp
    go_wp2;go_ret;exact⟨by rw[HG.o];rfl,HB2.o⟩
   |true=>
    have H2:=zaa h2;clear h2;go_wp2
    have HALL:Hid (∀w',Below w2.heap.size w2 w'→Hid (Below w2.heap.size w2 w')∧w'.cell? ⟨w.heap.size,1,none⟩=some (.slice a t.info.length c)∧w'.cell? ⟨w.heap.size,2,none⟩=some (.slice a' t.data.length c')):=
     fun w' hb=>⟨hb,zac hb hs2 x1,zac hb hs2 x2⟩
    clear x0 x1 x2 x3 x4 x5 x6 x7 x8 x9
    go_region_held3 (fun w'=>Hid (Below w2.heap.size w2 w')∧w'.cell? ⟨w.heap.size,1,none⟩=some (.slice a t.info.length c)∧w'.cell? ⟨w.heap.size,2,none⟩=some (.slice a' t.data.length c'))
     (first|exact HALL.o _ ((Below.refl _ _).drew)|(refine HALL.o _ ?_;assumption))
     (first
      |(go_at_call_of 61 (t.info);(have hnow:=(‹Hid (Below w2.heap.size w2 _)∧_›).1);have HNOW:=zaa hnow.o;refine(zna a c t.info _ ?_ r1).mono ?_;exact HM.o.below (zae HB2.o hnow.o);clear hnow;rintro e w10 ⟨am,cm,rfl,hsm,hb10⟩;have hbN:=zae HNOW.o hb10;have HSM:=zaa hsm;clear hb10 HNOW hsm)
      |(go_at_call_of 61 (t.data);(have hnow:=(‹Hid (Below w2.heap.size w2 _)∧_›).1);have HNOW:=zaa hnow.o;refine(zna a' c' t.data _ ?_ r2).mono ?_;exact HD.o.below (zae HB2.o hnow.o);clear hnow;rintro e w11 ⟨ad,cd,rfl,hsd,hb10⟩;have hbN:=zae HNOW.o hb10;have HSD:=zaa hsd;have HSM2:=zaa (HSM.o.below hb10);clear hb10 HNOW hsd))
    have hnow:=(‹Hid (Below w2.heap.size w2 w11)∧_›).1;have HB3:=zaa (zae HB2.o hnow.o);have hs3:w.heap.size<w11.heap.size:=by have:=hnow.o.size;omega
    have K3:=zaa (zad hnow.o hs2 K2.o);have HR3:=zaa (HR.o.below HB3.o);obtain⟨⟨_,_,_,x3,x4,x5,x6,x7,x8,x9⟩,_⟩:=zai K3.o;have rM:=zkt am cm (blksOf t.info) w11 HSM2.o (by rw[zcq];exact N1.o);have rD:=zkt ad cd (blksOf t.data) w11 HSD.o (by rw[zcq];exact N2.o);have rR:=zkt r d t.rev w11 HR3.o N3.o;rw[zcq] at rM rD;clear hnow HALL HM HD HR;go_wp2_with fail;refine rM.mono ?_;rintro e w12 ⟨rfl,rfl⟩
    cases h3:zbg (blksOf t.info) with
    |false=>
     have HG:Hid (zba t=false):=by rw[Hid,zey,h3];simp
     go_wp2;go_ret;exact⟨by rw[HG.o];rfl,HB3.o⟩
    |true=>
     go_wp2_with fail;refine rD.mono ?_;rintro e w12 ⟨rfl,rfl⟩
     cases h4:zbg (blksOf t.data) with
     |false=>
      have HG:Hid (zba t=false):=by rw[Hid,zey,h4];simp
      go_wp2;go_ret;exact⟨by rw[HG.o];rfl,HB3.o⟩
     |true=>
      go_wp2_with fail;refine rR.mono ?_;rintro e w12 ⟨rfl,rfl⟩
      cases h5:zbg t.rev with
      |false=>
       have HG:Hid (zba t=false):=by rw[Hid,zey,h5];simp
       go_wp2;go_ret;exact⟨by rw[HG.o];rfl,HB3.o⟩
      |true=>
       have q3:=zdf h3;have q4:=zdf h4;have q5:=zdf h5;have HN:=zaa (zyj t h3 h4 h5);have HF:Hid (flatI [(am,cm,blksOf t.info),(ad,cd,blksOf t.data),(r,d,t.rev)]=zkg t):=by simp[Hid,flatI,zkg]
       have HL:Hid (∀w',Below w11.heap.size w11 w'→w'.cell? ⟨w11.heap.size,0,none⟩=some (.slice am (blksOf t.info).length cm)→w'.cell? ⟨w11.heap.size,1,none⟩=some (.slice ad (blksOf t.data).length cd)→w'.cell? ⟨w11.heap.size,2,none⟩=some (.slice r t.rev.length d)→w11.heap.size<w'.heap.size→zxz w' w11.heap.size [(am,cm,blksOf t.info),(ad,cd,blksOf t.data),(r,d,t.rev)]):=by
        intro w' hb c0 c1 c2 hlt;refine⟨hlt,fun i x hx=>?_⟩
        match i,hx with
        |0,hx=>cases hx;exact⟨c0,HSM2.o.below hb⟩
        |1,hx=>cases hx;exact⟨c1,HSD.o.below hb⟩
        |2,hx=>cases hx;exact⟨c2,HR3.o.below hb⟩
        |n+3,hx=>simp at hx
       go_wp2_with fail;refine(zym w11.heap.size 3 3 [(am,cm,blksOf t.info),(ad,cd,blksOf t.data),(r,d,t.rev)] _ rfl (by omega) (HL.o _ (zab _ _) (by rw[zcq];simp[go_sem]) (by rw[zcq];simp[go_sem]) (by simp[go_sem]) (by simp)) (by rw[HF.o,zkg,List.length_append,List.length_append];omega)).mono ?_;rintro e w12 ⟨rfl,hb12⟩;rw[HF.o,HN.o];have hb13:=zae (zab _ _) hb12;have HB4:=zaa (zae HB3.o hb13);have hs4:w.heap.size<w12.heap.size:=by have:=hb13.size;omega
       have K4:=zaa (zad hb13 hs3 K3.o);clear x3 x4 x5 x6 x7 x8 x9 hb12 hb13;obtain⟨⟨_,_,_,_,x4,x5,x6,x7,x8,x9⟩,_⟩:=zai K4.o
       cases h6:decide (zkg t).Nodup with
       |false=>
        have HG:Hid (zba t=false):=by rw[Hid,zey,h6];simp
        go_wp2;go_ret;exact⟨by rw[HG.o];rfl,HB4.o⟩
       |true=>
        have HG:Hid (zba t=(hdB t.h0&&hdB t.h1&&hdB t.h2)):=by rw[Hid,zey,H0.o,H1.o,H2.o,h3,h4,h5,h6];simp
        go_wp2_with fail;refine(zsd t.h0 t.h1 t.h2 _).mono ?_;rintro e w13 ⟨rfl,hb13⟩;go_wp2;go_ret;exact⟨by rw[HG.o];rfl,zae HB4.o hb13⟩
theorem zaw {t:Tx}(h:zba t=true):t.info.length≤12∧t.data.length≤12∧t.rev.length≤12:=by
 have:=(za7 t).1 h;have h1:=zdf this.2.2.1.1;have h2:=zdf this.2.2.1.2.1;have h3:=zdf this.2.2.1.2.2;rw[zcq] at h1 h2;exact⟨h1,h2,h3⟩
def sealE (h u:Int)(t:Tx):Int:=if zh7 h u=false∨zba t=false∨zhx t=true then 2 else takeE h u (needN t.info.length t.rev.length)
def zch (h u:Int)(t:Tx):Int:=if sealE h u t=0 then takeH h u (needN t.info.length t.rev.length) else h
def zcc (h u:Int)(t:Tx):Int:=if sealE h u t=0 then takeU h u (needN t.info.length t.rev.length) else u
def sealP (h u:Int)(t:Tx):List Int:=if sealE h u t=0 then takeL h u (needN t.info.length t.rev.length) else[]
theorem zue (h u:Int)(v:Value)(t:Tx)(w:World)(hT:IsTx w v t)(r1:t.info.length*24≤140737488355328)(r2:t.data.length*24≤140737488355328):
  Calls Tryz.prog 163 #[.agg #[.int .i64 h,.int .i64 u],v] w fun e w'=>∃a c,e=.returned (.tuple #[.agg #[.int .i64 (zch h u t),.int .i64 (zcc h u t)],.slice a (sealP h u t).length c,.int .i64 (sealE h u t)])∧(SegI w' a (sealP h u t)∧(∀b off,a=some ⟨b,off,none⟩→w.heap.size≤b)∧(sealP h u t).length≤c)∧Below w.heap.size w w':=by
 have HT:=zaa hT;obtain⟨a0,a1,a2,a3,a4,a5,rfl,_,_,_,n1,n2,n3⟩:=hT;go_enter Tryz.func163,Tryz.ntmps163;go_wp2_with fail;refine(zj0 h u _).mono ?_;rintro e w1 ⟨rfl,hb1⟩;obtain⟨K1,K2,K3,hs1⟩:=zjt hb1;have KR:=zaa K1;have KT:=zaa K2;have KZ:=zaa K3;have hs1':w.heap.size<w1.heap.size:=by omega
 have hs1'':w.heap.size+1<w1.heap.size:=by omega
 have HB1:=zaa (zae (zae (zae (zab _ _) (zab _ _)) (zab _ _)) hb1);clear K1 K2 K3 hb1;obtain⟨⟨r0,r1'⟩,_⟩:=zfl KR.o;obtain⟨⟨y0,y1⟩,f0,f1⟩:=zfl KZ.o;obtain⟨⟨x0,x1,x2,x3,x4,x5,x6,x7,x8,x9⟩,_⟩:=zai KT.o
 cases hg:zh7 h u with
 |false=>
  have HE:Hid (sealE h u t=2):=by rw[Hid,sealE,if_pos (.inl hg)]
  have HH:Hid (zch h u t=h∧zcc h u t=u∧sealP h u t=[]):=by simp[Hid,zch,zcc,sealP,HE.o]
  go_wp2;refine bodyPost_ret (v:=.tuple #[.agg #[.int .i64 h,.int .i64 u],.slice none 0 0,.int .i64 2]) (by simp[results,Tryz.results163,go_sem,y0,y1]) rfl ⟨none,0,by rw[HE.o,HH.o.1,HH.o.2.1,HH.o.2.2];rfl,⟨.inl HH.o.2.2,fun _ _ e=>(by cases e),(by rw[HH.o.2.2];exact Nat.le_refl _)⟩,?_⟩
  repeat refine Below.setCell ?_ (by simp;try omega) _
  exact HB1.o
 |true=>
  have HG:=zaa hg;clear hg;go_wp2_with fail;refine(zb5 _ t _ (HT.o.below HB1.o) r1 r2).mono ?_;rintro e w2 ⟨rfl,hb2⟩
  replace KR:=zaa (zad hb2 hs1' KR.o)
  replace KT:=zaa (zad hb2 hs1'' KT.o)
  replace KZ:=zaa (zad hb2 hs1 KZ.o)
  have HB2:=zaa (zae HB1.o hb2);have hs2:=Nat.lt_of_lt_of_le hs1 hb2.size;have hs2':w.heap.size<w2.heap.size:=by omega
  have hs2'':w.heap.size+1<w2.heap.size:=by omega
  clear hb2 r0 r1' y0 y1 f0 f1 x0 x1 x2 x3 x4 x5 x6 x7 x8 x9 HB1;obtain⟨⟨r0,r1'⟩,_⟩:=zfl KR.o;obtain⟨⟨y0,y1⟩,f0,f1⟩:=zfl KZ.o;obtain⟨⟨x0,x1,x2,x3,x4,x5,x6,x7,x8,x9⟩,_⟩:=zai KT.o
  cases hx:zba t with
  |false=>
   have HE:Hid (sealE h u t=2):=by rw[Hid,sealE,if_pos (.inr (.inl hx))]
   have HH:Hid (zch h u t=h∧zcc h u t=u∧sealP h u t=[]):=by simp[Hid,zch,zcc,sealP,HE.o]
   go_wp2;refine bodyPost_ret (v:=.tuple #[.agg #[.int .i64 h,.int .i64 u],.slice none 0 0,.int .i64 2]) (by simp[results,Tryz.results163,go_sem,y0,y1]) rfl ⟨none,0,by rw[HE.o,HH.o.1,HH.o.2.1,HH.o.2.2];rfl,⟨.inl HH.o.2.2,fun _ _ e=>(by cases e),(by rw[HH.o.2.2];exact Nat.le_refl _)⟩,?_⟩
   repeat refine Below.setCell ?_ (by simp;try omega) _
   exact HB2.o
  |true=>
   have HXG:=zaa hx;clear hx;go_wp2_with fail;refine(zp7 _ t _ (HT.o.below HB2.o)).mono ?_;rintro e w3 ⟨rfl,hb3⟩
   replace KR:=zaa (zad hb3 hs2' KR.o)
   replace KT:=zaa (zad hb3 hs2'' KT.o)
   replace KZ:=zaa (zad hb3 hs2 KZ.o)
   have HB3:=zaa (zae HB2.o hb3);have hs3:=Nat.lt_of_lt_of_le hs2 hb3.size;have hs3':w.heap.size<w3.heap.size:=by omega
   clear hb3 r0 r1' y0 y1 f0 f1 x0 x1 x2 x3 x4 x5 x6 x7 x8 x9 HB2;obtain⟨⟨r0,r1'⟩,_⟩:=zfl KR.o;obtain⟨⟨y0,y1⟩,f0,f1⟩:=zfl KZ.o;obtain⟨⟨x0,x1,x2,x3,x4,x5,x6,x7,x8,x9⟩,_⟩:=zai KT.o
   cases ho:zhx t with
   |true=>
    have HE:Hid (sealE h u t=2):=by rw[Hid,sealE,if_pos (.inr (.inr ho))]
    have HH:Hid (zch h u t=h∧zcc h u t=u∧sealP h u t=[]):=by simp[Hid,zch,zcc,sealP,HE.o]
    go_wp2;refine bodyPost_ret (v:=.tuple #[.agg #[.int .i64 h,.int .i64 u],.slice none 0 0,.int .i64 2]) (by simp[results,Tryz.results163,go_sem,y0,y1]) rfl ⟨none,0,by rw[HE.o,HH.o.1,HH.o.2.1,HH.o.2.2];rfl,⟨.inl HH.o.2.2,fun _ _ e=>(by cases e),(by rw[HH.o.2.2];exact Nat.le_refl _)⟩,?_⟩
    repeat refine Below.setCell ?_ (by simp;try omega) _
    exact HB3.o
   |false=>
    have hsm:=zaw HXG.o;have HN:Hid (zkf (t.info.length:Int) (t.rev.length:Int)=0):=by rw[Hid,zkf,if_neg];omega
    have HE:Hid (sealE h u t=takeE h u (needN t.info.length t.rev.length)):=by
     rw[Hid,sealE,if_neg];rw[HG.o,HXG.o,ho];simp
    have HS:Hid (zch h u t=takeH h u (needN t.info.length t.rev.length)∧zcc h u t=takeU h u (needN t.info.length t.rev.length)∧sealP h u t=takeL h u (needN t.info.length t.rev.length)):=by
     by_cases e:takeE h u (needN t.info.length t.rev.length)=0
     ·simp[Hid,zch,zcc,sealP,HE.o,e]
     ·simp[Hid,zch,zcc,sealP,HE.o,takeH,takeU,takeL,e]
    go_wp2_with fail;refine(zp6 (t.info.length:Int) (t.rev.length:Int) _).mono ?_;rintro e w4 ⟨rfl,rfl⟩;rw[HN.o];generalize needN (t.info.length:Int) (t.rev.length:Int)=nn at *;go_wp2_with fail;refine(zp3 h u nn _).mono ?_;rintro e w5 ⟨a,c,rfl,hS5,hb5⟩;have HS5:=zaa hS5;have HB5:=zaa (zae HB3.o hb5);have KZ5:=zaa (zad hb5 hs3 KZ.o);have hs5:=Nat.lt_of_lt_of_le hs3 hb5.size;clear hS5 hb5 r0 r1' y0 y1 f0 f1 x0 x1 x2 x3 x4 x5 x6 x7 x8 x9;obtain⟨⟨y0,y1⟩,f0,f1⟩:=zfl KZ5.o;generalize takeE h u nn=te at *;generalize takeH h u nn=th at *;generalize takeU h u nn=tu at *;generalize takeL h u nn=tl at *;go_wp2;refine bodyPost_ret (v:=.tuple #[.agg #[.int .i64 th,.int .i64 tu],.slice a tl.length c,.int .i64 te]) (by simp[results,Tryz.results163,go_sem,y0,y1]) rfl ?_;rw[HE.o,HS.o.1,HS.o.2.1,HS.o.2.2];refine⟨a,c,rfl,⟨?_,fun b off e=>(by have:=HS5.o.2.1 b off e;omega),HS5.o.2.2⟩,?_⟩
    ·refine(HS5.o.1.setNe (fun b off e=>?_) _).setNe (fun b off e=>?_) _
     ·have:=HS5.o.2.1 b off e;simp;omega
     ·have:=HS5.o.2.1 b off e;simp;omega
    ·repeat refine Below.setCell ?_ (by simp;try omega) _
     exact HB5.o
end Go.Proofs.YtjnpndfpajjihacGreat

