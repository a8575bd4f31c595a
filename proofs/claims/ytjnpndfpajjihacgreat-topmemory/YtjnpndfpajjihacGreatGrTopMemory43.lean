/-
  
-/
import Derived.Test.YtjnpndfpajjihacGreatGrTopMemory41
import Derived.Great.BuildSlice
import Derived.Test.YtjnpndfpajjihacGreatXConcat
set_option maxRecDepth 100000
set_option maxHeartbeats 40000000
namespace Go.Proofs.YtjnpndfpajjihacGreat
open Go.RowKit
theorem zzo:∃f,Tryz.prog.underlying 93=some (.struct f):=by
 have h:(match Tryz.prog.underlying 93 with|some (.struct _)=>true|_=>false)=true:=by kernel_rfl
 cases hq:Tryz.prog.underlying 93 with
 |none=>rw[hq] at h;cases h
 |some d=>cases d<;>first|exact⟨_,rfl⟩|(rw[hq] at h;cases h)
theorem zq8 (d:Dk)(da:Option Addr)(dc:Nat)(db:Option Addr)(dd:Nat)(p q:Int)(w:World)(hq:IntKind.i64.wrap (q - 1)=q - 1):
  Calls Tryz.prog 71 #[.agg #[.slice da d.safe.length dc,.slice db d.wr.length dd],.int .i64 p,.int .i64 q] w fun e w'=>e=.returned (.agg (zbq (ze0 d p q) da dc db dd none 0 none 0 none 0 none 0 none 0 none 0 none 0 none 0 none 0))∧Below w.heap.size w w':=by
 generalize hn1:d.safe.length=n1;generalize hn2:d.wr.length=n2;obtain⟨CS,hCS⟩:∃CS,CS=zbq (ze0 d p q) da dc db dd none 0 none 0 none 0 none 0 none 0 none 0 none 0 none 0 none 0:=⟨_,rfl⟩;rw[←hCS];have HCS:=zaa hCS;have N1:=zaa hn1;have N2:=zaa hn2;clear hCS hn1 hn2;have hz:∀o,(w.alloc o).heap.size=w.heap.size+1:=fun o=>by simp
 have HZ:=zaa hz;clear hz;go_enter Tryz.func71,Tryz.ntmps71
 repeat (first|(refine wpList_store_rowTo rfl _ _ _ rfl rfl (w.heap.size+1) CS rfl (by rw[HCS.o,←N1.o,←N2.o];rfl) _ _ (by rw[←HZ.o _];exact heap_alloc_new _ _) (by rw[HCS.o];kernel_rfl) (by rw[HCS.o];kernel_rfl) (by rw[HCS.o];kernel_rfl) ?_)|go_step)
 obtain⟨fs,hst⟩:=zzo;refine bodyPost_ret (results_cell_row rfl _ _ (w.heap.size+1) _ CS _ _ rfl (setRow_heap _ _ _ _ _ _ (by rw[←HZ.o _];exact heap_alloc_new _ _)) hst rfl (by rw[HCS.o];kernel_rfl)) rfl ⟨rfl,?_⟩;exact((ButL.of_below (X:=[]) (zae (zab _ _) (zab _ _))).setRow (.inr (by omega)) CS).below
theorem JAt.but {w w':World}{B:Nat}{X Y:List Nat}{j:Jn}(h:JAt w B X j)(hb:ButL Y w.heap.size w w')(hY:∀y∈Y,y∈X)(hn:B∉Y):JAt w' B X j:=by
 obtain⟨hB,da,dc,db,dd,na,nc,nb,nd,ne,nf,sa,sc,sb,sd,se,sf,ca,cc,fa,fc,ta,tc,h1,h2⟩:=h;exact⟨hB,da,dc,db,dd,na,nc,nb,nd,ne,nf,sa,sc,sb,sd,se,sf,ca,cc,fa,fc,ta,tc,(hb.block B (Array.getElem?_eq_some_iff.1 h1).1 hn).trans h1,h2.ext (Ext.butL (hb.wider hY))⟩
theorem JAt.roleEq {w:World}{B:Nat}{X:List Nat}{j:Jn}(h:JAt w B X j)(f:Nat→Int)(hf:∀k,k<12→j.role k=f k):JAt w B X {j with role:=f}:=by
 obtain⟨hB,da,dc,db,dd,na,nc,nb,nd,ne,nf,sa,sc,sb,sd,se,sf,ca,cc,fa,fc,ta,tc,h1,h2⟩:=h;refine⟨hB,da,dc,db,dd,na,nc,nb,nd,ne,nf,sa,sc,sb,sd,se,sf,ca,cc,fa,fc,ta,tc,?_,h2⟩
 have e:zbq {j with role:=f} da dc db dd na nc nb nd ne nf sa sc sb sd se sf ca cc fa fc ta tc=zbq j da dc db dd na nc nb nd ne nf sa sc sb sd se sf ca cc fa fc ta tc:=by
  simp only[zbq,hf 0 (by decide),hf 1 (by decide),hf 2 (by decide),hf 3 (by decide),hf 4 (by decide),hf 5 (by decide),hf 6 (by decide),hf 7 (by decide),hf 8 (by decide),hf 9 (by decide),hf 10 (by decide),hf 11 (by decide)]
 rw[e];exact h1
def zq9 (B:Nat)(bs:Nat)(j:Jn)(da:Option Addr)(dc:Nat)(db:Option Addr)(dd:Nat):Nat→Value→World→Prop
 |0,v,_=>v=.pointer (some ⟨B,0,none⟩)
 |1,v,_=>v=.pointer (some ⟨B,0,none⟩)
 |2,v,_=>v=.pointer (some ⟨B,1,none⟩)
 |3,v,_=>v=.agg #[.slice da j.disk.safe.length dc,.slice db j.disk.wr.length dd]
 |4,v,_=>v=.pointer (some ⟨B,0,none⟩)
 |5,v,_=>v=.pointer (some ⟨B,0,none⟩)
 |6,v,_=>v=.pointer (some ⟨B,52,none⟩)
 |7,v,_=>v=.pointer (some ⟨B,54,none⟩)
 |8,v,_=>v=.int .i64 j.fP
 |9,v,_=>v=.pointer (some ⟨B,0,none⟩)
 |10,v,_=>v=.pointer (some ⟨B,0,none⟩)
 |11,v,_=>v=.pointer (some ⟨B,52,none⟩)
 |12,v,_=>v=.pointer (some ⟨B,53,none⟩)
 |13,v,_=>v=.int .i64 j.fN
 |14,v,_=>v=.agg (zbq (ze0 j.disk j.fP j.fN) da dc db dd none 0 none 0 none 0 none 0 none 0 none 0 none 0 none 0 none 0)
 |15,v,w=>∃(T:Nat) (cs:Array Value),v=.pointer (some ⟨T,0,none⟩)∧bs≤T∧cs.size=57∧w.heap[T]?=some (.cells cs 93 (0,0))
 |_,_,_=>True
theorem zka {B:Nat}{bs:Nat}{j:Jn}{da:Option Addr}{dc:Nat}{db:Option Addr}{dd:Nat}{w w':World}(hb:Below w.heap.size w w'){i:Nat}:∀kk uu,kk≠i→zq9 B bs j da dc db dd kk uu w→zq9 B bs j da dc db dd kk uu w':=by
 intro kk uu _ h
 match kk,h with
 |0,h|1,h|2,h|3,h|4,h|5,h|6,h|7,h|8,h|9,h|10,h|11,h|12,h|13,h|14,h=>exact h
 |15,⟨T,cs,h1,h2,h3,h4⟩=>exact⟨T,cs,h1,h2,h3,zad hb (Array.getElem?_eq_some_iff.1 h4).1 h4⟩
 |_+16,_=>exact trivial
theorem zwu (B:Nat)(X:List Nat)(j:Jn)(w:World)(h:JAt w B X j)(hX:∀x∈X,x<w.heap.size)(hn:j.fL.length≤maxLen)(hq:IntKind.i64.wrap (j.fN - 1)=j.fN - 1):
  Calls Tryz.prog 111 #[.pointer (some ⟨B,0,none⟩)] w fun e w'=>(∃v,e=.returned v)∧JAt w' B X (zkx j)∧ButL [B] w.heap.size w w':=by
 have HJ:=zaa h;have hlt:=h.lt;have hBX:=h.1;have HX:=zaa hX;have HQ:=zaa hq;have HN:=zaa hn;obtain⟨_,da,dc,db,dd,na,nc,nb,nd,ne,nf,sa,sc,sb,sd,se,sf,ca,cc,fa,fc,ta,tc,h1,hr⟩:=id h;have c1:w.cell? ⟨B,1,none⟩=some (.slice da j.disk.safe.length dc):=zaj h1 1;have c2:w.cell? ⟨B,2,none⟩=some (.slice db j.disk.wr.length dd):=zaj h1 2;have c53:w.cell? ⟨B,53,none⟩=some (.int .i64 j.fN):=zaj h1 53;have c54:w.cell? ⟨B,54,none⟩=some (.int .i64 j.fP):=zaj h1 54;have C1:=zaa c1;have C2:=zaa c2;have C53:=zaa c53;have C54:=zaa c54;have HDX:=zaa hr.1;clear h hX hq hn h1 hr c1 c2 c53 c54;go_enter Tryz.func111,Tryz.ntmps111;go_wp2;rename_i KK hKK
 have TAIL:∀(g:Nat→Value) (W3:World) (T:Nat) (cs:Array Value) (W2:World),W2.heap[T]?=some (.cells cs 93 (0,0))→W3=W2.setRow T (zbq (ze0 j.disk j.fP j.fN) da dc db dd none 0 none 0 none 0 none 0 none 0 none 0 none 0 none 0 none 0)→w.heap.size≤T→Below w.heap.size w W2→KK ⟨#[.pointer (some ⟨B,0,none⟩),g 1,.pointer (some ⟨T,0,none⟩),g 3,g 4,g 5,g 6,g 7,g 8,g 9,g 10,g 11,g 12,g 13,g 14,g 15,g 16,g 17,g 18,g 19,g 20,g 21,g 22,g 23,g 24,g 25,g 26,g 27,g 28,g 29,g 30,g 31,g 32,g 33,g 34,g 35,g 36,g 37,g 38,g 39,g 40,g 41],[]⟩ W3:=by
  intro g W3 T cs W2 hTb hW3 hT1 hb2;apply hKK;clear hKK;have hTB:¬T=B:=by omega
  have hBT:¬B=T:=by omega
  have HB3:Hid (Below w.heap.size w W3):=by rw[hW3];exact((ButL.of_below (X:=[]) hb2).setRow (.inr hT1) _).below
  have HJ3:Hid (JAt W3 B (T::X) j):=by
   have h0:=HJ.o.more hb2 hT1;refine h0.but (Y:=[T]) ?_ (by simp) (by simpa using hBT);rw[hW3];exact(ButL.refl _ _ _).setRow (.inl (by simp)) _
  have HT3:Hid (JAt W3 T (T::X) (ze0 j.disk j.fP j.fN)):=by
   rw[hW3];exact JAt.putAll (by simp) hTb _ _ _ _ _ _ _ _ _ _ _ _ _ _ _ _ _ _ _ _ _ _ ⟨HDX.o.ext (Ext.newL hb2 hT1),zqq _ _,zqq _ _,.inl rfl,.inl rfl,.inl rfl,z17 _,Nat.le_refl _,Nat.le_refl _,Nat.le_refl _⟩
  clear hW3 hb2 hTb
  have a0:W3.cell? ⟨B,0,none⟩=some (.int .i64 j.acts):=by
   obtain⟨_,kda,kdc,kdb,kdd,kna,knc,knb,knd,kne,knf,ksa,ksc,ksb,ksd,kse,ksf,kca,kcc,kfa,kfc,kta,ktc,k1,_⟩:=HJ3.o;exact(zaj k1 0).trans rfl
  have b0:(∃v,W3.cell? ⟨T,0,none⟩=some v)∧W3.frozen? ⟨T,0,none⟩=false:=by
   obtain⟨_,kda,kdc,kdb,kdd,kna,knc,knb,knd,kne,knf,ksa,ksc,ksb,ksd,kse,ksf,kca,kcc,kfa,kfc,kta,ktc,k1,_⟩:=HT3.o;exact⟨⟨_,(zaj k1 0).trans rfl⟩,frozen_of_row W3 _ _ _ _ k1⟩
  obtain⟨⟨v0,t0⟩,tf⟩:=b0;go_wp2;clear a0 t0 tf;obtain⟨W4,hW4⟩:∃W4,W4=W3.setCell ⟨T,0,none⟩ (.int .i64 j.acts):=⟨_,rfl⟩;rw[←hW4];have HB4:Hid (Below w.heap.size w W4):=by rw[hW4];exact HB3.o.setCell (p:=⟨T,0,none⟩) hT1 _
  have HJ4:Hid (JAt W4 B (T::X) j):=by rw[hW4];exact HJ3.o.set (by simp) hTB 0 _
  have HT4:Hid (JAt W4 T (T::X) {ze0 j.disk j.fP j.fN with acts:=j.acts}):=by rw[hW4];exact HT3.o.putActs _
  clear hW4 HB3 HJ3 HT3;obtain⟨RR,hRR⟩:∃RR:Nat→Nat→Int,RR=fun(k b:Nat)=>if b<k then zc3 j.fL.reverse (b:Int) else 0:=⟨_,rfl⟩
  have HR0:Hid (RR 0=fun _=>0):=by rw[Hid,hRR];funext b;simp
  have HRS:Hid (∀k,k<12→∀b,upd (RR k) (k:Int) (zc3 j.fL.reverse k) b=RR (k+1) b):=by
   intro k hk b;rw[hRR];simp only[upd];by_cases e:b=k
   ·subst e;simp
   ·rw[if_neg (by omega)]
    by_cases h2:b<k
    ·rw[if_pos h2,if_pos (by omega)]
    ·rw[if_neg h2,if_neg (by omega)]
  have HRE:Hid (∀k,k<12→RR 12 k=zc3 j.fL.reverse k):=by intro k hk;rw[hRR];simp[hk]
  clear hRR
  go_loopw [24] (fun i wr=>∃k:Nat,k≤12∧i=.int .i64 k∧Hid (JAt wr B (T::X) j)∧Hid (JAt wr T (T::X) ({ze0 j.disk j.fP j.fN with acts:=j.acts,role:=RR k}:Jn))∧Hid (Below w.heap.size w wr)) (fun i _=>12 - (intOf i).toNat)
  case atStart=>exact⟨0,by omega,rfl,HJ4,by rw[HR0.o];exact HT4,HB4⟩
  case round=>
   obtain⟨k,hk,rfl,HJr,HTr,HBr⟩:=hrel;clear HJ4 HT4 HB4;by_cases hk12:k<12
   ·have hkI:(k:Int)<12:=by omega
    obtain⟨_,kda,kdc,kdb,kdd,kna,knc,knb,knd,kne,knf,ksa,ksc,ksb,ksd,kse,ksf,kca,kcc,kfa,kfc,kta,ktc,k1,kr⟩:=id HJr.o;have a52:wr.cell? ⟨B,52,none⟩=some (.slice kfa j.fL.length kfc):=(zaj k1 52).trans rfl;have HSF:=zaa (kr.2.2.2.2.1.ext (Ext.seenL wr _));clear k1 kr;go_wp2_with fail;refine(zmn kfa kfc j.fL k _ HSF.o HN.o).mono ?_;rintro e wq ⟨rfl,hbq⟩;have HJq:=zaa (HJr.o.below hbq);have HTq:=zaa (HTr.o.below hbq);have HBq:=zaa (zae HBr.o hbq);obtain⟨e1,e2,e3,e4⟩:=HTq.o.role k hk12;have hk0:(0:Int)≤(k:Int):=by omega
    clear hbq a52 HSF HJr HTr HBr e2 e4;go_wp2
    go_roundw
    case rel=>
     refine⟨k+1,by omega,by go_num,HJq.o.set (by simp) hTB _ _,?_,HBq.o.setCell (p:=⟨T,7+k*2,none⟩) hT1 _⟩;have h9:=HTq.o.putRole k hk12 (zc3 j.fL.reverse k);exact h9.roleEq _ (fun b hb=>HRS.o k hk12 b)
    case measure=>first|(simp[intOf];omega)|simp[intOf]
   ·have e:k=12:=by omega
    subst e;obtain⟨_,kda,kdc,kdb,kdd,kna,knc,knb,knd,kne,knf,ksa,ksc,ksb,ksd,kse,ksf,kca,kcc,kfa,kfc,kta,ktc,k1,kr⟩:=HTr.o;obtain⟨_,mda,mdc,mdb,mdd,mna,mnc,mnb,mnd,mne,mnf,msa,msc,msb,msd,mse,msf,mca,mcc,mfa,mfc,mta,mtc,m1,mr⟩:=HJr.o;obtain⟨CS,hCS⟩:∃CS,CS=zbq (({ze0 j.disk j.fP j.fN with acts:=j.acts,role:=RR 12}:Jn)) kda kdc kdb kdd kna knc knb knd kne knf ksa ksc ksb ksd kse ksf kca kcc kfa kfc kta ktc:=⟨_,rfl⟩;have HCS:=zaa hCS;have HK1:=zaa k1;have HKR:=zaa kr;have HM1:=zaa m1;clear k1 kr m1 mr hCS;obtain⟨fs,hst⟩:=zzo;have HST:=zaa hst;clear hst;have HIN:Hid ((Tryz.prog.info? 93).map (·.size)=some CS.size):=by rw[Hid,HCS.o];exact z18 _ _ _ _ _ _ _ _ _ _ _ _ _ _ _ _ _ _ _ _ _ _ _
    have HON:Hid (CS.all (·.oneCell')=true):=by rw[Hid,HCS.o];exact zhn _ _ _ _ _ _ _ _ _ _ _ _ _ _ _ _ _ _ _ _ _ _ _
    have HK2:Hid (wr.heap[T]?=some (.cells CS 93 (0,0))):=by rw[Hid,HCS.o];exact HK1.o
    have HSZ:Hid ((zbq j mda mdc mdb mdd mna mnc mnb mnd mne mnf msa msc msb msd mse msf mca mcc mfa mfc mta mtc).size=CS.size):=by rw[Hid,HCS.o];kernel_rfl
    repeat (first|(refine wpList_load_row rfl _ _ rfl T rfl _ CS _ _ HK2.o HST.o rfl HIN.o ?_)|(refine wpList_store_rowTo rfl _ _ _ rfl rfl B CS rfl rfl _ _ HM1.o HIN.o HSZ.o HON.o ?_)|go_step)
    refine bodyPost_end (results_none rfl _ _ _) rfl ⟨⟨_,rfl⟩,?_,(ButL.of_below HBr.o).setRow (.inl (by simp)) CS⟩;have h9:=(JAt.putAll (B:=B) (X:=T::X) (by simp[hBX]) HM1.o _ _ _ _ _ _ _ _ _ _ _ _ _ _ _ _ _ _ _ _ _ _ HKR.o).less hBX;rw[←HCS.o] at h9;exact h9.roleEq (fun k=>zc3 j.fL.reverse k) HRE.o
 have HTAIL:=zaa TAIL;clear TAIL hKK;refine(show∀A0:Act,A0=_→Code.wp Tryz.prog _ _ A0 _ from fun A0 hA0=>?_) _ rfl;have hsz:A0.tmps.size=42:=by rw[hA0];rfl
 have hdf:A0.defers=[]:=by rw[hA0]
 have v0:A0.eval (.tmp 0)=.pointer (some ⟨B,0,none⟩):=by rw[hA0];rfl
 clear hA0;refine zbe 16 (fun w'=>Below w.heap.size w w') [4,5,6,7,8,9,10,11,12,13,14,15,16,17,18,2] (zq9 B w.heap.size j da dc db dd) (by kernel_rfl) (by kernel_rfl) (by kernel_rfl) (by kernel_rfl) (by decide) ((Below.refl _ _).drew) ⟨?_,?_,?_,?_,?_,?_,?_,?_,?_,?_,?_,?_,?_,?_,?_,?_,trivial⟩ ?_
 ·intro a w' hF hR hp
  have z0:=(hF.other 0 rfl).trans v0;exact zak _ rfl rfl (by revert z0;generalize a.eval=ρ;intro z0;simp only[execOp];go_simp) hF hsz hR rfl
 ·intro a w' hF hR hp
  have p4:a.eval (.tmp 4)=.pointer (some ⟨B,0,none⟩):=hp ⟨0,.data⟩ (by simp) rfl;exact zak _ rfl rfl (by revert p4;generalize a.eval=ρ;intro p4;simp only[execOp];go_simp) hF hsz hR rfl
 ·intro a w' hF hR hp
  have p5:a.eval (.tmp 5)=.pointer (some ⟨B,0,none⟩):=hp ⟨1,.data⟩ (by simp) rfl;exact zak _ rfl rfl (by revert p5;generalize a.eval=ρ;intro p5;simp only[execOp];go_simp) hF hsz hR rfl
 ·intro a w' hF hR hp
  have p6:a.eval (.tmp 6)=.pointer (some ⟨B,1,none⟩):=hp ⟨2,.data⟩ (by simp) rfl;have c0:w'.cell? ⟨B,1,none⟩=some (.slice da j.disk.safe.length dc):=zac hR hlt C1.o;have c1:w'.cell? ⟨B,2,none⟩=some (.slice db j.disk.wr.length dd):=zac hR hlt C2.o;exact zak _ rfl rfl (by revert p6;generalize a.eval=ρ;intro p6;simp only[execOp];go_simp) hF hsz hR rfl
 ·intro a w' hF hR hp
  have z0:=(hF.other 0 rfl).trans v0;exact zak _ rfl rfl (by revert z0;generalize a.eval=ρ;intro z0;simp only[execOp];go_simp) hF hsz hR rfl
 ·intro a w' hF hR hp
  have p8:a.eval (.tmp 8)=.pointer (some ⟨B,0,none⟩):=hp ⟨4,.data⟩ (by simp) rfl;exact zak _ rfl rfl (by revert p8;generalize a.eval=ρ;intro p8;simp only[execOp];go_simp) hF hsz hR rfl
 ·intro a w' hF hR hp
  have p9:a.eval (.tmp 9)=.pointer (some ⟨B,0,none⟩):=hp ⟨5,.data⟩ (by simp) rfl;exact zak _ rfl rfl (by revert p9;generalize a.eval=ρ;intro p9;simp only[execOp];go_simp) hF hsz hR rfl
 ·intro a w' hF hR hp
  have p10:a.eval (.tmp 10)=.pointer (some ⟨B,52,none⟩):=hp ⟨6,.data⟩ (by simp) rfl;exact zak _ rfl rfl (by revert p10;generalize a.eval=ρ;intro p10;simp only[execOp];go_simp) hF hsz hR rfl
 ·intro a w' hF hR hp
  have p11:a.eval (.tmp 11)=.pointer (some ⟨B,54,none⟩):=hp ⟨7,.data⟩ (by simp) rfl;have c0:w'.cell? ⟨B,54,none⟩=some (.int .i64 j.fP):=zac hR hlt C54.o;exact zak _ rfl rfl (by revert p11;generalize a.eval=ρ;intro p11;simp only[execOp];go_simp) hF hsz hR rfl
 ·intro a w' hF hR hp
  have z0:=(hF.other 0 rfl).trans v0;exact zak _ rfl rfl (by revert z0;generalize a.eval=ρ;intro z0;simp only[execOp];go_simp) hF hsz hR rfl
 ·intro a w' hF hR hp
  have p13:a.eval (.tmp 13)=.pointer (some ⟨B,0,none⟩):=hp ⟨9,.data⟩ (by simp) rfl;exact zak _ rfl rfl (by revert p13;generalize a.eval=ρ;intro p13;simp only[execOp];go_simp) hF hsz hR rfl
 ·intro a w' hF hR hp
  have p14:a.eval (.tmp 14)=.pointer (some ⟨B,0,none⟩):=hp ⟨10,.data⟩ (by simp) rfl;exact zak _ rfl rfl (by revert p14;generalize a.eval=ρ;intro p14;simp only[execOp];go_simp) hF hsz hR rfl
 ·intro a w' hF hR hp
  have p15:a.eval (.tmp 15)=.pointer (some ⟨B,52,none⟩):=hp ⟨11,.data⟩ (by simp) rfl;exact zak _ rfl rfl (by revert p15;generalize a.eval=ρ;intro p15;simp only[execOp];go_simp) hF hsz hR rfl
 ·intro a w' hF hR hp
  have p16:a.eval (.tmp 16)=.pointer (some ⟨B,53,none⟩):=hp ⟨12,.data⟩ (by simp) rfl;have c0:w'.cell? ⟨B,53,none⟩=some (.int .i64 j.fN):=zac hR hlt C53.o;exact zak _ rfl rfl (by revert p16;generalize a.eval=ρ;intro p16;simp only[execOp];go_simp) hF hsz hR rfl
 ·intro a w' hF hR hp
  have p7:a.eval (.tmp 7)=.agg #[.slice da j.disk.safe.length dc,.slice db j.disk.wr.length dd]:=hp ⟨3,.data⟩ (by simp) rfl;have p12:a.eval (.tmp 12)=.int .i64 j.fP:=hp ⟨8,.data⟩ (by simp) rfl;have p17:a.eval (.tmp 17)=.int .i64 j.fN:=hp ⟨13,.data⟩ (by simp) rfl;refine zbu 71 #[.agg #[.slice da j.disk.safe.length dc,.slice db j.disk.wr.length dd],.int .i64 j.fP,.int .i64 j.fN] rfl rfl (by have pf:=Act.eval_func a 71;revert p7 p12 p17 pf;generalize a.eval=ρ;intro p7 p12 p17 pf;simp only[execOp];go_simp) _ (zq8 j.disk da dc db dd j.fP j.fN _ HQ.o) ?_;rintro e w2 ⟨rfl,hb2⟩;refine⟨_,rfl,_,rfl,zae hR hb2,?_,zka hb2⟩;show zq9 _ _ _ _ _ _ _ _ ((a.put (some 18) _).eval (.tmp 18)) w2;rw[zap hF hsz (by decide)];exact rfl
 ·intro a w' hF hR hp
  refine zfw (.pointer (some ⟨w'.heap.size,0,none⟩)) rfl rfl (w':=w'.alloc (.cells #[.int .i64 0,.slice none 0 0,.slice none 0 0,.int .i64 0,.int .i64 0,.int .i64 0,.bool false,.int .i64 0,.int .i64 0,.int .i64 0,.int .i64 0,.int .i64 0,.int .i64 0,.int .i64 0,.int .i64 0,.int .i64 0,.int .i64 0,.int .i64 0,.int .i64 0,.int .i64 0,.int .i64 0,.int .i64 0,.int .i64 0,.int .i64 0,.int .i64 0,.int .i64 0,.int .i64 0,.int .i64 0,.int .i64 0,.int .i64 0,.int .i64 0,.int .i64 0,.slice none 0 0,.slice none 0 0,.slice none 0 0,.bool false,.int .i64 0,.bool false,.int .i64 0,.bool false,.int .i64 0,.int .i64 0,.slice none 0 0,.slice none 0 0,.slice none 0 0,.bool false,.int .i64 0,.bool false,.int .i64 0,.bool false,.int .i64 0,.slice none 0 0,.slice none 0 0,.int .i64 0,.int .i64 0,.int .i64 0,.slice none 0 0] 93)) (by simp only[execOp];go_simp) ⟨_,rfl,hR.alloc hR.size _,?_,zka (zab _ _)⟩;show zq9 _ _ _ _ _ _ _ _ ((a.put (some 2) _).eval (.tmp 2)) _;rw[zap hF hsz (by decide)];exact⟨_,_,rfl,hR.size,rfl,heap_alloc_new _ _⟩
 ·intro a W hF hR hp
  have p18:a.eval (.tmp 18)=.agg (zbq (ze0 j.disk j.fP j.fN) da dc db dd none 0 none 0 none 0 none 0 none 0 none 0 none 0 none 0 none 0):=hp 14 (by decide);obtain⟨T,cs,p2,hT1,hcs,hTb⟩:∃(T:Nat) (cs:Array Value),a.eval (.tmp 2)=.pointer (some ⟨T,0,none⟩)∧w.heap.size≤T∧cs.size=57∧W.heap[T]?=some (.cells cs 93 (0,0)):=hp 15 (by decide);show wpOps Tryz.prog _ _ [16] a W;rw[wpOps_cons];refine zj7 _ (.tmp 2) (.tmp 18) T (zbq (ze0 j.disk j.fP j.fN) da dc db dd none 0 none 0 none 0 none 0 none 0 none 0 none 0 none 0 none 0) rfl rfl rfl p2 p18 _ cs hTb (z18 _ _ _ _ _ _ _ _ _ _ _ _ _ _ _ _ _ _ _ _ _ _ _) hcs (zhn _ _ _ _ _ _ _ _ _ _ _ _ _ _ _ _ _ _ _ _ _ _ _) ?_;have hsa:a.tmps.size=42:=hF.size.trans hsz;have f0:a.eval (.tmp 0)=.pointer (some ⟨B,0,none⟩):=(hF.other 0 rfl).trans v0;have hlit:a=⟨#[_,_,_,_,_,_,_,_,_,_,_,_,_,_,_,_,_,_,_,_,_,_,_,_,_,_,_,_,_,_,_,_,_,_,_,_,_,_,_,_,_,_],[]⟩:=zcj a 42 hsa (hF.defers.trans hdf);dsimp only at hlit;rw[f0,p2] at hlit;show KK a _;exact(congrArg (fun x=>KK x _) hlit).mpr (HTAIL.o (fun k=>a.eval (.tmp k)) _ T cs W hTb rfl hT1 hR)
theorem SegZ.ext {w w':World}{a:Option Addr}{l:List RZ}(h:SegZ w a l)(e:Ext w w'):SegZ w' a l:=by
 rcases h with h|⟨b,off,rfl,hlt,hc⟩
 ·exact .inl h
 ·exact .inr ⟨b,off,rfl,Nat.lt_of_lt_of_le hlt e.size,fun j u hj=>e.cell _ _ _ (hc j u hj)⟩
def zns (B:Nat)(bs:Nat)(j:Jn)(sa:Option Addr)(sc:Nat)(sb:Option Addr)(sd:Nat)(se:Option Addr)(sf:Nat)(ca:Option Addr)(cc:Nat)(q:List RZ):Nat→Value→World→Prop
 |0,v,_=>v=.pointer (some ⟨B,0,none⟩)
 |1,v,_=>v=.pointer (some ⟨B,0,none⟩)
 |2,v,_=>v=.pointer (some ⟨B,0,none⟩)
 |3,v,_=>v=.pointer (some ⟨B,51,none⟩)
 |4,v,_=>v=.slice ca j.done.length cc
 |5,v,_=>v=.agg #[.int .i64 j.sealed.seq,.slice sa j.sealed.info.length sc,.slice sb j.sealed.data.length sd,.slice se j.sealed.rev.length sf,.bool j.sealed.h0.on,.int .i64 j.sealed.h0.left,.bool j.sealed.h1.on,.int .i64 j.sealed.h1.left,.bool j.sealed.h2.on,.int .i64 j.sealed.h2.left]
 |6,v,w=>∃b1:Nat,v=.slice (some ⟨b1,0,none⟩) 1 1∧bs≤b1∧w.heap[b1]?=some (.cells #[.int .i64 j.sealed.seq,.slice sa j.sealed.info.length sc,.slice sb j.sealed.data.length sd,.slice se j.sealed.rev.length sf,.bool j.sealed.h0.on,.int .i64 j.sealed.h0.left,.bool j.sealed.h1.on,.int .i64 j.sealed.h1.left,.bool j.sealed.h2.on,.int .i64 j.sealed.h2.left] 40 (0,0))
 |7,v,w=>∃b1 b2:Nat,v=.slice (some ⟨b2,0,none⟩) 2 2∧bs≤b2∧w.heap[b2]?=some (.cells #[.slice ca j.done.length cc,.slice (some ⟨b1,0,none⟩) 1 1] 88 (0,0))∧w.heap[b1]?=some (.cells #[.int .i64 j.sealed.seq,.slice sa j.sealed.info.length sc,.slice sb j.sealed.data.length sd,.slice se j.sealed.rev.length sf,.bool j.sealed.h0.on,.int .i64 j.sealed.h0.left,.bool j.sealed.h1.on,.int .i64 j.sealed.h1.left,.bool j.sealed.h2.on,.int .i64 j.sealed.h2.left] 40 (0,0))
 |8,v,w=>w.ownsRow bs 40 10 v (q.length+1) (cellsZ (q++[(⟨sa,sc,sb,sd,se,sf,j.sealed⟩:RZ)]))
 |9,v,_=>v=.pointer (some ⟨B,0,none⟩)
 |10,v,_=>v=.pointer (some ⟨B,51,none⟩)
 |_,_,_=>True
theorem zg0 {B:Nat}{bs:Nat}{j:Jn}{sa:Option Addr}{sc:Nat}{sb:Option Addr}{sd:Nat}{se:Option Addr}{sf:Nat}{ca:Option Addr}{cc:Nat}{q:List RZ}{w w':World}(hb:Below w.heap.size w w'){i:Nat}:∀kk uu,kk≠i→zns B bs j sa sc sb sd se sf ca cc q kk uu w→zns B bs j sa sc sb sd se sf ca cc q kk uu w':=by
 intro kk uu _ h
 match kk,h with
 |0,h|1,h|2,h|3,h|4,h|5,h=>exact h
 |6,⟨b1,h1,h2,h3⟩=>exact⟨b1,h1,h2,zad hb (Array.getElem?_eq_some_iff.1 h3).1 h3⟩
 |7,⟨b1,b2,h1,h2,h3,h4⟩=>exact⟨b1,b2,h1,h2,zad hb (Array.getElem?_eq_some_iff.1 h3).1 h3,zad hb (Array.getElem?_eq_some_iff.1 h4).1 h4⟩
 |8,h=>exact zah h hb
 |9,h|10,h=>exact h
 |_+11,_=>exact trivial
theorem zrc (B:Nat)(X:List Nat)(j:Jn)(w:World)(h:JAt w B X j)(hX:∀x∈X,x<w.heap.size)(hn:j.done.length≤900):
  Calls Tryz.prog 110 #[.pointer (some ⟨B,0,none⟩)] w (zdc w B X (zhd j)):=by
 have HJ:=zaa h;have hlt:=h.lt;have hBX:=h.1;have HX:=zaa hX;have HN:=zaa hn;have HE:Hid (zhd j=({j with sealed:=zds 0,done:=j.done++[j.sealed],last:=j.sealed.seq},⟨0,j.sealed.seq,⟨#[]⟩⟩)):=rfl;obtain⟨_,da,dc,db,dd,na,nc,nb,nd,ne,nf,sa,sc,sb,sd,se,sf,ca,cc,fa,fc,ta,tc,h1,hr⟩:=id h;have c41:w.cell? ⟨B,41,none⟩=some (.int .i64 j.sealed.seq):=zaj h1 41;have fc41:w.frozen? ⟨B,41,none⟩=false:=frozen_of_row w _ _ _ _ h1;have c42:w.cell? ⟨B,42,none⟩=some (.slice sa j.sealed.info.length sc):=zaj h1 42;have fc42:w.frozen? ⟨B,42,none⟩=false:=frozen_of_row w _ _ _ _ h1;have c43:w.cell? ⟨B,43,none⟩=some (.slice sb j.sealed.data.length sd):=zaj h1 43;have fc43:w.frozen? ⟨B,43,none⟩=false:=frozen_of_row w _ _ _ _ h1;have c44:w.cell? ⟨B,44,none⟩=some (.slice se j.sealed.rev.length sf):=zaj h1 44;have fc44:w.frozen? ⟨B,44,none⟩=false:=frozen_of_row w _ _ _ _ h1;have c45:w.cell? ⟨B,45,none⟩=some (.bool j.sealed.h0.on):=zaj h1 45;have fc45:w.frozen? ⟨B,45,none⟩=false:=frozen_of_row w _ _ _ _ h1;have c46:w.cell? ⟨B,46,none⟩=some (.int .i64 j.sealed.h0.left):=zaj h1 46;have fc46:w.frozen? ⟨B,46,none⟩=false:=frozen_of_row w _ _ _ _ h1;have c47:w.cell? ⟨B,47,none⟩=some (.bool j.sealed.h1.on):=zaj h1 47;have fc47:w.frozen? ⟨B,47,none⟩=false:=frozen_of_row w _ _ _ _ h1;have c48:w.cell? ⟨B,48,none⟩=some (.int .i64 j.sealed.h1.left):=zaj h1 48;have fc48:w.frozen? ⟨B,48,none⟩=false:=frozen_of_row w _ _ _ _ h1;have c49:w.cell? ⟨B,49,none⟩=some (.bool j.sealed.h2.on):=zaj h1 49;have fc49:w.frozen? ⟨B,49,none⟩=false:=frozen_of_row w _ _ _ _ h1;have c50:w.cell? ⟨B,50,none⟩=some (.int .i64 j.sealed.h2.left):=zaj h1 50;have fc50:w.frozen? ⟨B,50,none⟩=false:=frozen_of_row w _ _ _ _ h1;have HTS0:=zaa hr.2.2.1;clear h hX hn h1 hr;have hne:¬w.heap.size=B:=by omega
 have hne1:¬w.heap.size+1=B:=by omega
 have hrB:w.heap.size≠B:=by omega
 go_enter Tryz.func110,Tryz.ntmps110;go_wp2;rename_i KK hKK;clear c41 fc41 c42 fc42 c43 fc43 c44 fc44 c45 fc45 c46 fc46 c47 fc47 c48 fc48 c49 fc49 c50 fc50;obtain⟨W0,hW0⟩:∃W0,W0=((((((((((w.setCell ⟨B,41,none⟩ (.int .i64 0)).setCell ⟨B,42,none⟩ (.slice none 0 0)).setCell ⟨B,43,none⟩ (.slice none 0 0)).setCell ⟨B,44,none⟩ (.slice none 0 0)).setCell ⟨B,45,none⟩ (.bool false)).setCell ⟨B,46,none⟩ (.int .i64 0)).setCell ⟨B,47,none⟩ (.bool false)).setCell ⟨B,48,none⟩ (.int .i64 0)).setCell ⟨B,49,none⟩ (.bool false)).setCell ⟨B,50,none⟩ (.int .i64 0)):=⟨_,rfl⟩;rw[←hW0];have hs0:W0.heap.size=w.heap.size:=by rw[hW0];simp[World.setCell]
 have hB0:ButL [B] w.heap.size w W0:=by rw[hW0];exact((((((((((ButL.refl _ _ w).set (.inl (by simp)) 41 _).set (.inl (by simp)) 42 _).set (.inl (by simp)) 43 _).set (.inl (by simp)) 44 _).set (.inl (by simp)) 45 _).set (.inl (by simp)) 46 _).set (.inl (by simp)) 47 _).set (.inl (by simp)) 48 _).set (.inl (by simp)) 49 _).set (.inl (by simp)) 50 _
 have HJ0:Hid (JAt W0 B X ({j with sealed:=zds 0}:Jn)):=by rw[hW0];exact HJ.o.putSealed (t:=zds 0) (zqq _ _)
 have HTS1:=zaa (HTS0.o.ext (Ext.butL (hB0.wider (Y:=X) (by simp[hBX]))));obtain⟨W2,hW2⟩:∃W2,W2=(W0.alloc (.cells #[.int .i64 0,.int .i64 0,.string ⟨#[]⟩] 31)).alloc (.cells #[.int .i64 j.sealed.seq,.slice sa j.sealed.info.length sc,.slice sb j.sealed.data.length sd,.slice se j.sealed.rev.length sf,.bool j.sealed.h0.on,.int .i64 j.sealed.h0.left,.bool j.sealed.h1.on,.int .i64 j.sealed.h1.left,.bool j.sealed.h2.on,.int .i64 j.sealed.h2.left] 40):=⟨_,rfl⟩;rw[←hW2];have hb02:Below W0.heap.size W0 W2:=by rw[hW2];exact zae (zab _ _) (zab _ _)
 have HJ2:Hid (JAt W2 B (w.heap.size::X) ({j with sealed:=zds 0}:Jn)):=HJ0.o.more hb02 (by omega);have HTS:Hid (IsTx (zar W2 (w.heap.size::X)) (.agg #[.int .i64 j.sealed.seq,.slice sa j.sealed.info.length sc,.slice sb j.sealed.data.length sd,.slice se j.sealed.rev.length sf,.bool j.sealed.h0.on,.int .i64 j.sealed.h0.left,.bool j.sealed.h1.on,.int .i64 j.sealed.h1.left,.bool j.sealed.h2.on,.int .i64 j.sealed.h2.left]) j.sealed):=HTS1.o.ext (Ext.newL hb02 (by omega));have HB2:Hid (ButL [B] w.heap.size w W2):=hB0.trans (Y:=[]) (ButL.of_below hb02) (by omega) (by simp);have hsA:(W0.alloc (.cells #[.int .i64 0,.int .i64 0,.string ⟨#[]⟩] 31)).heap.size=w.heap.size+1:=by simp[hs0]
 have hs2:W2.heap.size=w.heap.size+2:=by rw[hW2];simp[hs0]
 have KR2:Hid (W2.heap[w.heap.size]?=some (.cells #[.int .i64 0,.int .i64 0,.string ⟨#[]⟩] 31 (0,0))):=by rw[hW2];exact zad (zab _ _) (by omega) (by rw[←hs0];exact heap_alloc_new _ _)
 have KA2:Hid (W2.heap[w.heap.size+1]?=some (.cells #[.int .i64 j.sealed.seq,.slice sa j.sealed.info.length sc,.slice sb j.sealed.data.length sd,.slice se j.sealed.rev.length sf,.bool j.sealed.h0.on,.int .i64 j.sealed.h0.left,.bool j.sealed.h1.on,.int .i64 j.sealed.h1.left,.bool j.sealed.h2.on,.int .i64 j.sealed.h2.left] 40 (0,0))):=by rw[hW2,←hsA];exact heap_alloc_new _ _
 clear hW0 hB0 HJ0 HTS1 hW2 hb02 hsA hs0 HTS0
 have HX2:Hid (∀x∈(w.heap.size::X),x<W2.heap.size):=fun x hx=>by
  rcases List.mem_cons.1 hx with rfl|hx
  ·omega
  ·have:=HX.o x hx;omega
 obtain⟨_,mda,mdc,mdb,mdd,mna,mnc,mnb,mnd,mne,mnf,msa,msc,msb,msd,mse,msf,ca,cc,mfa,mfc,mta,mtc,m1,mr⟩:=id HJ2.o;have C51:Hid (W2.cell? ⟨B,51,none⟩=some (.slice ca j.done.length cc)):=(zaj m1 51).trans rfl;obtain⟨q,hqm,hqs,hqt⟩:=mr.2.2.2.1.rz;have HQM:=zaa hqm;have HQS:=zaa hqs;have HQT:=zaa hqt;have HQL:Hid (q.length=j.done.length):=by rw[Hid,←HQM.o,List.length_map]
 have HQN:Hid (q.length≤900):=by rw[Hid,HQL.o];exact HN.o
 clear m1 mr hqm hqs hqt;obtain⟨⟨y0,y1,y2,y3,y4,y5,y6,y7,y8,y9⟩,_⟩:=zai KA2.o;have Q0:=zaa y0;have Q1:=zaa y1;have Q2:=zaa y2;have Q3:=zaa y3;have Q4:=zaa y4;have Q5:=zaa y5;have Q6:=zaa y6;have Q7:=zaa y7;have Q8:=zaa y8;have Q9:=zaa y9;clear y0 y1 y2 y3 y4 y5 y6 y7 y8 y9;have hBW:B<W2.heap.size:=by omega
 have hDW:w.heap.size+1<W2.heap.size:=by omega
 have HSZ:Hid (∀{w':World} {b1 b2:Nat},Below W2.heap.size W2 w'→w'.heap[b2]?=some (.cells #[.slice ca j.done.length cc,.slice (some ⟨b1,0,none⟩) 1 1] 88 (0,0))→w'.heap[b1]?=some (.cells #[.int .i64 j.sealed.seq,.slice sa j.sealed.info.length sc,.slice sb j.sealed.data.length sd,.slice se j.sealed.rev.length sf,.bool j.sealed.h0.on,.int .i64 j.sealed.h0.left,.bool j.sealed.h1.on,.int .i64 j.sealed.h1.left,.bool j.sealed.h2.on,.int .i64 j.sealed.h2.left] 40 (0,0))→z4m w' b2 [(ca,cc,q),(some ⟨b1,0,none⟩,1,[(⟨sa,sc,sb,sd,se,sf,j.sealed⟩:RZ)])]):=by
  intro w' b1 b2 hb h2 h3;refine⟨(Array.getElem?_eq_some_iff.1 h2).1,fun i x hx=>?_⟩
  match i,hx with
  |0,hx=>
   cases hx;refine⟨?_,(HQS.o.ext (Ext.seenL W2 _)).below hb⟩;rw[HQL.o];exact(cell_of_row w' _ 0 _ _ _ h2).trans rfl
  |1,hx=>
   cases hx;refine⟨(cell_of_row w' _ 1 _ _ _ h2).trans rfl,.inr ⟨b1,0,rfl,(Array.getElem?_eq_some_iff.1 h3).1,fun k u hu=>?_⟩⟩;rw[Nat.zero_add,cell_of_row w' _ k _ _ _ h3];rw[←hu];simp[cellsZ,RZ.cells]
  |i+2,hx=>simp at hx
 have TAIL:∀(g:Nat→Value) (W6:World),JAt W6 B (w.heap.size::X) ({j with sealed:=zds 0,done:=j.done++[j.sealed]}:Jn)→ButL [B] W2.heap.size W2 W6→KK ⟨#[.pointer (some ⟨B,0,none⟩),g 1,.pointer (some ⟨w.heap.size,0,none⟩),.pointer (some ⟨w.heap.size+1,0,none⟩),g 4,g 5,g 6,g 7,g 8,g 9,g 10,g 11,g 12,g 13,g 14,g 15,g 16,g 17,g 18,g 19,g 20,g 21,g 22,g 23,g 24,g 25,g 26,g 27,g 28,g 29,g 30],[]⟩ W6:=by
  intro g W6 hJ7 hB7;apply hKK;clear hKK;have HJ7:=zaa hJ7;have HB7:Hid (ButL [B] w.heap.size w W6):=HB2.o.trans hB7 HB2.o.size (by simp);have KR7:Hid (W6.heap[w.heap.size]?=some (.cells #[.int .i64 0,.int .i64 0,.string ⟨#[]⟩] 31 (0,0))):=(hB7.block _ (by omega) (by simpa using hrB)).trans KR2.o;have KA7:Hid (W6.heap[w.heap.size+1]?=some (.cells #[.int .i64 j.sealed.seq,.slice sa j.sealed.info.length sc,.slice sb j.sealed.data.length sd,.slice se j.sealed.rev.length sf,.bool j.sealed.h0.on,.int .i64 j.sealed.h0.left,.bool j.sealed.h1.on,.int .i64 j.sealed.h1.left,.bool j.sealed.h2.on,.int .i64 j.sealed.h2.left] 40 (0,0))):=(hB7.block _ (by omega) (by simpa using hne1)).trans KA2.o;have hs7:W2.heap.size≤W6.heap.size:=hB7.size;have hl7:B<W6.heap.size:=by omega
  clear hJ7 hB7;obtain⟨_,kda,kdc,kdb,kdd,kna,knc,knb,knd,kne,knf,ksa,ksc,ksb,ksd,kse,ksf,kca,kcc,kfa,kfc,kta,ktc,k1,_⟩:=id HJ7.o;obtain⟨v5,c5⟩:∃v,W6.cell? ⟨B,5,none⟩=some v:=⟨_,(zaj k1 5).trans rfl⟩;have fc5:W6.frozen? ⟨B,5,none⟩=false:=frozen_of_row W6 _ _ _ _ k1;clear k1;obtain⟨⟨q0,_⟩,_⟩:=zai KA7.o;obtain⟨⟨y0,y1,y2⟩,yf⟩:=zbj KR7.o;go_wp2;obtain⟨W7,hW7⟩:∃W7,W7=W6.setCell ⟨B,5,none⟩ (.int .i64 j.sealed.seq):=⟨_,rfl⟩;rw[←hW7];have KR2:Hid (W7.heap[w.heap.size]?=some (.cells #[.int .i64 0,.int .i64 0,.string ⟨#[]⟩] 31 (0,0))):=by rw[hW7];exact(Below.heap_setCell _ _ _ _ hrB).trans KR7.o
  have HJ2:Hid (JAt W7 B (w.heap.size::X) {j with sealed:=zds 0,done:=j.done++[j.sealed],last:=j.sealed.seq}):=by rw[hW7];exact HJ7.o.putLast _
  have HB2:Hid (ButL [B] w.heap.size w W7):=by rw[hW7];exact HB7.o.set (.inl (by simp)) 5 _
  obtain⟨W,hW⟩:∃W,W=(((W7.setCell ⟨w.heap.size,0,none⟩ (.int .i64 0)).setCell ⟨w.heap.size,1,none⟩ (.int .i64 j.sealed.seq)).setCell ⟨w.heap.size,2,none⟩ (.string ⟨#[]⟩)):=⟨_,rfl⟩;have hX:=zfs KR2.o (.int .i64 0) (.int .i64 j.sealed.seq) (.string ⟨#[]⟩);rw[←hW] at hX⊢;obtain⟨⟨u0,u1,u2⟩,_⟩:=zbj hX;refine bodyPost_ret (v:=.agg #[.int .i64 0,.int .i64 j.sealed.seq,.string ⟨#[]⟩]) (by simp[results,Tryz.results110,go_sem,u0,u1,u2]) rfl ⟨by rw[HE.o];rfl,?_,?_⟩
  ·rw[HE.o,hW]
   exact zwb HJ2.o hrB hBX _ _ _
  ·rw[hW]
   exact((HB2.o.set (.inr (by omega)) 0 _).set (.inr (by omega)) 1 _).set (.inr (by omega)) 2 _
 have HTAIL:=zaa TAIL;clear TAIL hKK;refine(show∀A0:Act,A0=_→Code.wp Tryz.prog _ _ A0 _ from fun A0 hA0=>?_) _ rfl;have hsz:A0.tmps.size=31:=by rw[hA0];rfl
 have hdf:A0.defers=[]:=by rw[hA0]
 have v0:A0.eval (.tmp 0)=.pointer (some ⟨B,0,none⟩):=by rw[hA0];rfl
 have v2:A0.eval (.tmp 2)=.pointer (some ⟨w.heap.size,0,none⟩):=by rw[hA0];rfl
 have v3:A0.eval (.tmp 3)=.pointer (some ⟨w.heap.size+1,0,none⟩):=by rw[hA0];rfl
 clear hA0;refine zbe 11 (fun w'=>Below W2.heap.size W2 w') [12,13,14,15,16,17,18,19,20,21,22] (zns B W2.heap.size j sa sc sb sd se sf ca cc q) (by kernel_rfl) (by kernel_rfl) (by kernel_rfl) (by kernel_rfl) (by decide) ((Below.refl _ _).drew) ⟨?_,?_,?_,?_,?_,?_,?_,?_,?_,?_,?_,trivial⟩ ?_
 ·intro a w' hF hR hp
  have z0:=(hF.other 0 rfl).trans v0;exact zak _ rfl rfl (by revert z0;generalize a.eval=ρ;intro z0;simp only[execOp];go_simp) hF hsz hR rfl
 ·intro a w' hF hR hp
  have z0:=(hF.other 0 rfl).trans v0;exact zak _ rfl rfl (by revert z0;generalize a.eval=ρ;intro z0;simp only[execOp];go_simp) hF hsz hR rfl
 ·intro a w' hF hR hp
  have p13:a.eval (.tmp 13)=.pointer (some ⟨B,0,none⟩):=hp ⟨1,.data⟩ (by simp) rfl;exact zak _ rfl rfl (by revert p13;generalize a.eval=ρ;intro p13;simp only[execOp];go_simp) hF hsz hR rfl
 ·intro a w' hF hR hp
  have p14:a.eval (.tmp 14)=.pointer (some ⟨B,0,none⟩):=hp ⟨2,.data⟩ (by simp) rfl;exact zak _ rfl rfl (by revert p14;generalize a.eval=ρ;intro p14;simp only[execOp];go_simp) hF hsz hR rfl
 ·intro a w' hF hR hp
  have p15:a.eval (.tmp 15)=.pointer (some ⟨B,51,none⟩):=hp ⟨3,.data⟩ (by simp) rfl;have c0:w'.cell? ⟨B,51,none⟩=some (.slice ca j.done.length cc):=zac hR hBW C51.o;exact zak _ rfl rfl (by revert p15;generalize a.eval=ρ;intro p15;simp only[execOp];go_simp) hF hsz hR rfl
 ·intro a w' hF hR hp
  have z3:=(hF.other 3 rfl).trans v3;have c0:w'.cell? ⟨w.heap.size+1,0,none⟩=some (.int .i64 j.sealed.seq):=zac hR hDW Q0.o;have c1:w'.cell? ⟨w.heap.size+1,1,none⟩=some (.slice sa j.sealed.info.length sc):=zac hR hDW Q1.o;have c2:w'.cell? ⟨w.heap.size+1,2,none⟩=some (.slice sb j.sealed.data.length sd):=zac hR hDW Q2.o;have c3:w'.cell? ⟨w.heap.size+1,3,none⟩=some (.slice se j.sealed.rev.length sf):=zac hR hDW Q3.o;have c4:w'.cell? ⟨w.heap.size+1,4,none⟩=some (.bool j.sealed.h0.on):=zac hR hDW Q4.o;have c5:w'.cell? ⟨w.heap.size+1,5,none⟩=some (.int .i64 j.sealed.h0.left):=zac hR hDW Q5.o;have c6:w'.cell? ⟨w.heap.size+1,6,none⟩=some (.bool j.sealed.h1.on):=zac hR hDW Q6.o;have c7:w'.cell? ⟨w.heap.size+1,7,none⟩=some (.int .i64 j.sealed.h1.left):=zac hR hDW Q7.o;have c8:w'.cell? ⟨w.heap.size+1,8,none⟩=some (.bool j.sealed.h2.on):=zac hR hDW Q8.o;have c9:w'.cell? ⟨w.heap.size+1,9,none⟩=some (.int .i64 j.sealed.h2.left):=zac hR hDW Q9.o;exact zak _ rfl rfl (by revert z3;generalize a.eval=ρ;intro z3;simp only[execOp];go_simp) hF hsz hR rfl
 ·intro a w' hF hR hp
  have p17:a.eval (.tmp 17)=.agg #[.int .i64 j.sealed.seq,.slice sa j.sealed.info.length sc,.slice sb j.sealed.data.length sd,.slice se j.sealed.rev.length sf,.bool j.sealed.h0.on,.int .i64 j.sealed.h0.left,.bool j.sealed.h1.on,.int .i64 j.sealed.h1.left,.bool j.sealed.h2.on,.int .i64 j.sealed.h2.left]:=hp ⟨5,.data⟩ (by simp) rfl;refine zfw (.slice (some ⟨w'.heap.size,0,none⟩) 1 1) rfl rfl (w':=w'.alloc (.cells #[.int .i64 j.sealed.seq,.slice sa j.sealed.info.length sc,.slice sb j.sealed.data.length sd,.slice se j.sealed.rev.length sf,.bool j.sealed.h0.on,.int .i64 j.sealed.h0.left,.bool j.sealed.h1.on,.int .i64 j.sealed.h1.left,.bool j.sealed.h2.on,.int .i64 j.sealed.h2.left] 40)) (by revert p17;generalize a.eval=ρ;intro p17;simp only[execOp];go_simp) ⟨_,rfl,hR.alloc hR.size _,?_,zg0 (zab _ _)⟩;show zns _ _ _ _ _ _ _ _ _ _ _ _ _ ((a.put (some 18) _).eval (.tmp 18)) _;rw[zap hF hsz (by decide)];exact⟨_,rfl,hR.size,heap_alloc_new _ _⟩
 ·intro a w' hF hR hp
  have p16:a.eval (.tmp 16)=.slice ca j.done.length cc:=hp ⟨4,.data⟩ (by simp) rfl;obtain⟨b1,p18,hb1,hc1⟩:∃b1:Nat,a.eval (.tmp 18)=.slice (some ⟨b1,0,none⟩) 1 1∧W2.heap.size≤b1∧w'.heap[b1]?=some (.cells #[.int .i64 j.sealed.seq,.slice sa j.sealed.info.length sc,.slice sb j.sealed.data.length sd,.slice se j.sealed.rev.length sf,.bool j.sealed.h0.on,.int .i64 j.sealed.h0.left,.bool j.sealed.h1.on,.int .i64 j.sealed.h1.left,.bool j.sealed.h2.on,.int .i64 j.sealed.h2.left] 40 (0,0)):=hp ⟨6,.data⟩ (by simp) rfl;refine zfw (.slice (some ⟨w'.heap.size,0,none⟩) 2 2) rfl rfl (w':=w'.alloc (.cells #[.slice ca j.done.length cc,.slice (some ⟨b1,0,none⟩) 1 1] 88)) (by revert p16 p18;generalize a.eval=ρ;intro p16 p18;simp only[execOp];go_simp) ⟨_,rfl,hR.alloc hR.size _,?_,zg0 (zab _ _)⟩;show zns _ _ _ _ _ _ _ _ _ _ _ _ _ ((a.put (some 19) _).eval (.tmp 19)) _;rw[zap hF hsz (by decide)];exact⟨b1,_,rfl,hR.size,heap_alloc_new _ _,zad (zab _ _) (Array.getElem?_eq_some_iff.1 hc1).1 hc1⟩
 ·intro a w' hF hR hp
  obtain⟨b1,b2,p19,hb2,hc2,hc1⟩:∃b1 b2:Nat,a.eval (.tmp 19)=.slice (some ⟨b2,0,none⟩) 2 2∧W2.heap.size≤b2∧w'.heap[b2]?=some (.cells #[.slice ca j.done.length cc,.slice (some ⟨b1,0,none⟩) 1 1] 88 (0,0))∧w'.heap[b1]?=some (.cells #[.int .i64 j.sealed.seq,.slice sa j.sealed.info.length sc,.slice sb j.sealed.data.length sd,.slice se j.sealed.rev.length sf,.bool j.sealed.h0.on,.int .i64 j.sealed.h0.left,.bool j.sealed.h1.on,.int .i64 j.sealed.h1.left,.bool j.sealed.h2.on,.int .i64 j.sealed.h2.left] 40 (0,0)):=hp ⟨7,.data⟩ (by simp) rfl;refine zbu 141 #[.slice (some ⟨b2,0,none⟩) 2 2] rfl rfl (by have pf:=Act.eval_func a 141;revert p19 pf;generalize a.eval=ρ;intro p19 pf;simp only[execOp];go_simp) _ (ztc b2 2 2 [(ca,cc,q),(some ⟨b1,0,none⟩,1,[(⟨sa,sc,sb,sd,se,sf,j.sealed⟩:RZ)])] w' rfl (by decide) (HSZ.o hR hc2 hc1) (by have:=HQN.o;simp[flatZ];omega)) ?_;rintro e w2 ⟨v',rfl,hO,hb⟩;refine⟨_,rfl,_,rfl,zae hR hb,?_,zg0 hb⟩;show zns _ _ _ _ _ _ _ _ _ _ _ _ _ ((a.put (some 20) _).eval (.tmp 20)) _;rw[zap hF hsz (by decide)];have hO2:=za5 hO hR.size;simp only[flatZ,List.map_cons,List.map_nil,List.flatten_cons,List.flatten_nil,List.append_nil,List.length_append,List.length_cons,List.length_nil,Nat.zero_add] at hO2;exact hO2
 ·intro a w' hF hR hp
  have p12:a.eval (.tmp 12)=.pointer (some ⟨B,0,none⟩):=hp ⟨0,.data⟩ (by simp) rfl;exact zak _ rfl rfl (by revert p12;generalize a.eval=ρ;intro p12;simp only[execOp];go_simp) hF hsz hR rfl
 ·intro a w' hF hR hp
  have p21:a.eval (.tmp 21)=.pointer (some ⟨B,0,none⟩):=hp ⟨9,.data⟩ (by simp) rfl;exact zak _ rfl rfl (by revert p21;generalize a.eval=ρ;intro p21;simp only[execOp];go_simp) hF hsz hR rfl
 ·intro a W hF hR hp
  have p20:W.ownsRow W2.heap.size 40 10 (a.eval (.tmp 20)) (q.length+1) (cellsZ (q++[(⟨sa,sc,sb,sd,se,sf,j.sealed⟩:RZ)])):=hp 8 (by decide);have p22:a.eval (.tmp 22)=.pointer (some ⟨B,51,none⟩):=hp 10 (by decide);have hsa:a.tmps.size=31:=hF.size.trans hsz;have hOX:=zgz (X:=(w.heap.size::X)) p20 HX2.o
  obtain⟨ya,yc,hy,hSg,_⟩:=SegTx.of_rz hOX (fun x hx=>by
   rcases List.mem_append.1 hx with h|h
   ·exact(HQT.o x h).ext (Ext.freshL hR)
   ·rw[List.mem_singleton.1 h];exact HTS.o.ext (Ext.freshL hR))
  rw[List.map_append,HQM.o] at hSg;have hlen:(q++[(⟨sa,sc,sb,sd,se,sf,j.sealed⟩:RZ)]).length=(j.done++[j.sealed]).length:=by rw[←HQM.o];simp
  rw[hlen] at hy;have hJW:=HJ2.o.below hR;obtain⟨_,kda,kdc,kdb,kdd,kna,knc,knb,knd,kne,knf,ksa,ksc,ksb,ksd,kse,ksf,kca,kcc,kfa,kfc,kta,ktc,k1,_⟩:=id hJW;obtain⟨v51,c51⟩:∃v,W.cell? ⟨B,51,none⟩=some v:=⟨_,(zaj k1 51).trans rfl⟩;have fc51:W.frozen? ⟨B,51,none⟩=false:=frozen_of_row W _ _ _ _ k1;clear k1;show wpOps Tryz.prog _ _ [11] a W;rw[wpOps_cons];refine zco rfl rfl (w':=W.setCell ⟨B,51,none⟩ (.slice ya (j.done++[j.sealed]).length yc)) (by generalize (j.done++[j.sealed]).length=nn at *;revert hy p22;generalize a.eval=ρ;intro hy p22;simp only[execOp];go_simp) ?_;have f0:a.eval (.tmp 0)=.pointer (some ⟨B,0,none⟩):=(hF.other 0 rfl).trans v0;have f2:a.eval (.tmp 2)=.pointer (some ⟨w.heap.size,0,none⟩):=(hF.other 2 rfl).trans v2;have f3:a.eval (.tmp 3)=.pointer (some ⟨w.heap.size+1,0,none⟩):=(hF.other 3 rfl).trans v3;have hlit:a=⟨#[_,_,_,_,_,_,_,_,_,_,_,_,_,_,_,_,_,_,_,_,_,_,_,_,_,_,_,_,_,_,_],[]⟩:=zcj a 31 hsa (hF.defers.trans hdf);dsimp only at hlit;rw[f0,f2,f3] at hlit;show KK a _;exact(congrArg (fun x=>KK x _) hlit).mpr (HTAIL.o (fun k=>a.eval (.tmp k)) _ (hJW.putDone (l:=j.done++[j.sealed]) hSg) ((ButL.of_below hR).set (.inl (by simp)) 51 _))
theorem zte (B:Nat)(X:List Nat)(j:Jn)(w:World)(h:JAt w B X j)(hX:∀x∈X,x<w.heap.size)(hn:j.done.length≤900)(hf:j.fL.length≤maxLen)(hq:IntKind.i64.wrap (j.fN - 1)=j.fN - 1):
  Calls Tryz.prog 74 #[.pointer (some ⟨B,0,none⟩)] w (zdc w B X (zb6 j)):=by
 have HJ:=zaa h;have hlt:=h.lt;have hBX:=h.1;have HX:=zaa hX;have HN:=zaa hn;have HF:=zaa hf;have HQ:=zaa hq;obtain⟨_,da,dc,db,dd,na,nc,nb,nd,ne,nf,sa,sc,sb,sd,se,sf,ca,cc,fa,fc,ta,tc,h1,hr⟩:=id h;have c55:w.cell? ⟨B,55,none⟩=some (.int .i64 j.work):=zaj h1 55;clear h hX hn hf hq h1 hr;have hne:¬w.heap.size=B:=by omega
 by_cases h6:j.work=6
 ·have HE:Hid (zb6 j=zhd j):=by rw[Hid,zb6,if_pos h6]
  rw[h6] at c55;clear h6;go_enter Tryz.func74,Tryz.ntmps74;go_wp2_with fail;obtain⟨W1,hW1⟩:∃W1,W1=w.alloc (.cells #[.int .i64 0,.int .i64 0,.string ⟨#[]⟩] 31):=⟨_,rfl⟩;have HJ1:Hid (JAt W1 B (w.heap.size::X) j):=by rw[hW1];exact HJ.o.more (zab _ _) (Nat.le_refl _)
  have HB1:Hid (ButL [B] w.heap.size w W1):=by rw[hW1];exact ButL.of_below (zab _ _)
  have KR:Hid (W1.heap[w.heap.size]?=some (.cells #[.int .i64 0,.int .i64 0,.string ⟨#[]⟩] 31 (0,0))):=by rw[hW1];exact heap_alloc_new _ _
  have hs1:W1.heap.size=w.heap.size+1:=by rw[hW1];simp
  have hrl:w.heap.size<W1.heap.size:=by omega
  have hrB:w.heap.size≠B:=by omega
  have HX2:Hid (∀x∈(w.heap.size::X),x<W1.heap.size):=fun x hx=>by
   rcases List.mem_cons.1 hx with rfl|hx
   ·exact hrl
   ·have:=HX.o x hx;omega
  rw[←hW1];clear hW1;refine(zrc B (w.heap.size::X) j W1 HJ1.o HX2.o HN.o).mono ?_;rintro e w2 ⟨rfl,hJ2,hB2⟩;have KR2:Hid (w2.heap[w.heap.size]?=some (.cells #[.int .i64 0,.int .i64 0,.string ⟨#[]⟩] 31 (0,0))):=(hB2.block _ (by omega) (by simpa using hrB)).trans KR.o;have HJ2:=zaa hJ2;have HB2:Hid (ButL [B] w.heap.size w w2):=HB1.o.trans hB2 HB1.o.size (by simp);have hs2:W1.heap.size≤w2.heap.size:=hB2.size;clear hJ2 hB2;have HE3:Hid (zb6 j=((zhd j).1,⟨0,j.sealed.seq,⟨#[]⟩⟩)):=HE.o;rw[show vRp (zhd j).2=.agg #[.int .i64 0,.int .i64 j.sealed.seq,.string ⟨#[]⟩] from rfl];obtain⟨⟨y0,y1,y2⟩,yf⟩:=zbj KR2.o;go_wp2;exact zbc HE3.o KR2.o HJ2.o HB2.o hrB hBX fun W u0 u1 u2=>by simp[results,Tryz.results74,go_sem,u0,u1,u2]
 ·have b6:(j.work==6)=false:=by simpa using h6
  by_cases h7:j.work=7
  ·have HE:Hid (zb6 j=({j with done:=[],ru:=0},zav 0)):=by rw[Hid,zb6,if_neg h6,if_pos h7]
   rw[h7] at c55;clear h6 h7 b6
   have a51:(∃v,w.cell? ⟨B,51,none⟩=some v)∧(∃v,w.cell? ⟨B,4,none⟩=some v)∧w.frozen? ⟨B,51,none⟩=false∧w.frozen? ⟨B,4,none⟩=false:=by
    obtain⟨_,da,dc,db,dd,na,nc,nb,nd,ne,nf,sa,sc,sb,sd,se,sf,ca,cc,fa,fc,ta,tc,k1,_⟩:=HJ.o;exact⟨⟨_,(zaj k1 51).trans rfl⟩,⟨_,(zaj k1 4).trans rfl⟩,frozen_of_row w _ _ _ _ k1,frozen_of_row w _ _ _ _ k1⟩
   obtain⟨⟨v51,c51⟩,⟨v4,c4⟩,f51,f4⟩:=a51;go_enter Tryz.func74,Tryz.ntmps74;go_wp2_with fail;obtain⟨W0,hW0⟩:∃W0,W0=(w.setCell ⟨B,51,none⟩ (.slice none 0 0)).setCell ⟨B,4,none⟩ (.int .i64 0):=⟨_,rfl⟩;rw[←hW0];have hs0:W0.heap.size=w.heap.size:=by rw[hW0];simp[World.setCell]
   have HJ0:Hid (JAt W0 B X {j with done:=[],ru:=0}):=by rw[hW0];exact(HJ.o.putDone (l:=[]) (.inl rfl)).putUsed 0
   have HB0:Hid (ButL [B] w.heap.size w W0):=by rw[hW0];exact((ButL.refl _ _ _).set (.inl (by simp)) 51 _).set (.inl (by simp)) 4 _
   clear hW0 c51 c4 f51 f4 c55;obtain⟨W1,hW1⟩:∃W1,W1=W0.alloc (.cells #[.int .i64 0,.int .i64 0,.string ⟨#[]⟩] 31):=⟨_,rfl⟩;have HJ1:Hid (JAt W1 B (w.heap.size::X) {j with done:=[],ru:=0}):=by rw[hW1];exact HJ0.o.more (zab _ _) (by omega)
   have HB1:Hid (ButL [B] w.heap.size w W1):=by rw[hW1];exact HB0.o.trans (Y:=[]) (ButL.of_below (zab _ _)) (by omega) (by simp)
   have KR:Hid (W1.heap[w.heap.size]?=some (.cells #[.int .i64 0,.int .i64 0,.string ⟨#[]⟩] 31 (0,0))):=by rw[hW1,←hs0];exact heap_alloc_new _ _
   have hrl:w.heap.size<W1.heap.size:=by rw[hW1];simp[hs0]
   have hrB:w.heap.size≠B:=by omega
   rw[←hW1];clear hW1;refine(zat 0 _).mono ?_;rintro e w2 ⟨rfl,hb2⟩;have KR2:=zaa (zad hb2 hrl KR.o);have HJ2:=zaa (HJ1.o.below hb2);have HB2:=zaa (HB1.o.trans (Y:=[]) (ButL.of_below hb2) HB1.o.size (by simp));clear hb2;obtain⟨⟨y0,y1,y2⟩,yf⟩:=zbj KR2.o;go_wp2;exact zbc HE.o KR2.o HJ2.o HB2.o hrB hBX fun W u0 u1 u2=>by simp[results,Tryz.results74,go_sem,u0,u1,u2]
  ·have b7:(j.work==7)=false:=by simpa using h7
   by_cases h11:j.work=11
   ·have HE:Hid (zb6 j=(zkx j,zav 0)):=by rw[Hid,zb6,if_neg h6,if_neg h7,if_pos h11]
    rw[h11] at c55;clear h6 h7 h11 b6 b7;go_enter Tryz.func74,Tryz.ntmps74;go_wp2_with fail;obtain⟨W1,hW1⟩:∃W1,W1=w.alloc (.cells #[.int .i64 0,.int .i64 0,.string ⟨#[]⟩] 31):=⟨_,rfl⟩;have HJ1:Hid (JAt W1 B (w.heap.size::X) j):=by rw[hW1];exact HJ.o.more (zab _ _) (Nat.le_refl _)
    have HB1:Hid (ButL [B] w.heap.size w W1):=by rw[hW1];exact ButL.of_below (zab _ _)
    have KR:Hid (W1.heap[w.heap.size]?=some (.cells #[.int .i64 0,.int .i64 0,.string ⟨#[]⟩] 31 (0,0))):=by rw[hW1];exact heap_alloc_new _ _
    have hs1:W1.heap.size=w.heap.size+1:=by rw[hW1];simp
    have hrl:w.heap.size<W1.heap.size:=by omega
    have hrB:w.heap.size≠B:=by omega
    have HX2:Hid (∀x∈(w.heap.size::X),x<W1.heap.size):=fun x hx=>by
     rcases List.mem_cons.1 hx with rfl|hx
     ·exact hrl
     ·have:=HX.o x hx;omega
    rw[←hW1];clear hW1;refine(zwu B (w.heap.size::X) j W1 HJ1.o HX2.o HF.o HQ.o).mono ?_;rintro e w2 ⟨⟨v,rfl⟩,hJ2,hB2⟩;have KR2:Hid (w2.heap[w.heap.size]?=some (.cells #[.int .i64 0,.int .i64 0,.string ⟨#[]⟩] 31 (0,0))):=(hB2.block _ (by omega) (by simpa using hrB)).trans KR.o;have HJ2:=zaa hJ2;have HB2:Hid (ButL [B] w.heap.size w w2):=HB1.o.trans hB2 HB1.o.size (by simp);have hs2:W1.heap.size≤w2.heap.size:=hB2.size;clear hJ2 hB2;have HJ1:=HJ2;have HB1:=HB2;have KR:=KR2;have hrl:w.heap.size<w2.heap.size:=by omega
    go_wp2_with fail;refine(zat 0 _).mono ?_;rintro e w3 ⟨rfl,hb2⟩;have KR2:=zaa (zad hb2 hrl KR.o);have HJ2:=zaa (HJ1.o.below hb2);have HB2:=zaa (HB1.o.trans (Y:=[]) (ButL.of_below hb2) HB1.o.size (by simp));clear hb2;obtain⟨⟨y0,y1,y2⟩,yf⟩:=zbj KR2.o;go_wp2;exact zbc HE.o KR2.o HJ2.o HB2.o hrB hBX fun W u0 u1 u2=>by simp[results,Tryz.results74,go_sem,u0,u1,u2]
   ·have HE:Hid (zb6 j=(j,zav 0)):=by rw[Hid,zb6,if_neg h6,if_neg h7,if_neg h11]
    have b11:(j.work==11)=false:=by simpa using h11
    clear h6 h7 h11;go_enter Tryz.func74,Tryz.ntmps74;go_wp2_with fail;obtain⟨W1,hW1⟩:∃W1,W1=w.alloc (.cells #[.int .i64 0,.int .i64 0,.string ⟨#[]⟩] 31):=⟨_,rfl⟩;have HJ1:Hid (JAt W1 B (w.heap.size::X) j):=by rw[hW1];exact HJ.o.more (zab _ _) (Nat.le_refl _)
    have HB1:Hid (ButL [B] w.heap.size w W1):=by rw[hW1];exact ButL.of_below (zab _ _)
    have KR:Hid (W1.heap[w.heap.size]?=some (.cells #[.int .i64 0,.int .i64 0,.string ⟨#[]⟩] 31 (0,0))):=by rw[hW1];exact heap_alloc_new _ _
    have hs1:W1.heap.size=w.heap.size+1:=by rw[hW1];simp
    have hrl:w.heap.size<W1.heap.size:=by omega
    have hrB:w.heap.size≠B:=by omega
    have HX2:Hid (∀x∈(w.heap.size::X),x<W1.heap.size):=fun x hx=>by
     rcases List.mem_cons.1 hx with rfl|hx
     ·exact hrl
     ·have:=HX.o x hx;omega
    rw[←hW1];clear hW1;refine(zat 0 _).mono ?_;rintro e w2 ⟨rfl,hb2⟩;have KR2:=zaa (zad hb2 hrl KR.o);have HJ2:=zaa (HJ1.o.below hb2);have HB2:=zaa (HB1.o.trans (Y:=[]) (ButL.of_below hb2) HB1.o.size (by simp));clear hb2;obtain⟨⟨y0,y1,y2⟩,yf⟩:=zbj KR2.o;go_wp2;exact zbc HE.o KR2.o HJ2.o HB2.o hrB hBX fun W u0 u1 u2=>by simp[results,Tryz.results74,go_sem,u0,u1,u2]
end Go.Proofs.YtjnpndfpajjihacGreat

