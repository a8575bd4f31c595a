/-
  
-/
import Derived.Test.YtjnpndfpajjihacGreatGrTopSettles20
import Derived.Test.YtjnpndfpajjihacGreatXCheck
import Derived.Test.YtjnpndfpajjihacGreatGrTopSettles28
import Derived.Test.YtjnpndfpajjihacGreatEPure
import Derived.Test.YtjnpndfpajjihacGreatGrTopSettles37
import Derived.Test.YtjnpndfpajjihacGreatXFew
set_option maxRecDepth 100000
set_option maxHeartbeats 40000000
namespace Go.Proofs.YtjnpndfpajjihacGreat
open Go.RowKit
def z5d (n:Nat)(t:Tx):Prop:=t.info.length≤n∧t.rev.length≤20*n∧t.data=[]∧t.h0=⟨false,0⟩∧t.h1=⟨false,0⟩∧t.h2=⟨false,0⟩
theorem zwi{m:Mk}(h:goodM m=0):m.tags.length≤10∧m.blocks.length≤20:=by
 unfold goodM at h;split at h
 ·cases h
 ·split at h
  ·cases h
  ·split at h
   ·cases h
   ·rename_i A;split at h
    ·cases h
    ·rename_i B;constructor
     ·by_cases e:m.kind=2
      ·have:¬(m.tags.length<1∨10<m.tags.length):=fun x=>B (.inl ⟨e,x⟩);omega
      ·have:¬m.tags≠[]:=fun x=>A (.inr (.inl ⟨e,x⟩));simp only[ne_eq,Decidable.not_not]at this;rw[this];exact Nat.zero_le _
     ·by_cases e:m.kind=3
      ·have:¬(m.blocks.length<1∨20<m.blocks.length):=fun x=>B (.inr (.inl ⟨e,x⟩));omega
      ·have:¬m.blocks≠[]:=fun x=>A (.inr (.inr ⟨e,x⟩));simp only[ne_eq,Decidable.not_not]at this;rw[this];exact Nat.zero_le _
theorem zzc(log:List ByteArray)(seq:Int):∀(f i:Nat) (t:Tx) (n:Nat) (u:Tx),log.length - i≤f→i≤log.length→z5d i t→zfg log seq i t=some (n,u)→z5d log.length u∧u.seq=t.seq:=by
 intro f
 induction f with
 |zero=>intro i t n u B F A h;rw[zfg,dif_neg (by omega)]at h;cases h
 |succ f ih=>
  intro i t n u B F A h;rw[zfg]at h;split at h
  ·split at h
   ·cases h
   ·rename_i D;split at h
    ·cases h;obtain⟨a,b,c⟩:=A;exact⟨⟨by omega,by omega,c⟩,rfl⟩
    ·split at h
     ·rename_i E
      have C:(zar (log.getD i ByteArray.empty)).2=0:=by
       by_cases hx:(zar (log.getD i ByteArray.empty)).2=0
       ·exact hx
       ·exact absurd (.inl hx) D
      have hm:=zwi (zk3 C);have:=ih _ _ _ _ (by omega) E ?_ h
      ·exact⟨this.1,this.2⟩
      ·obtain⟨a,b,c⟩:=A;refine⟨?_,?_,c⟩
       ·show(t.info++copiesAt log (i+1) _).length≤_;rw[List.length_append,zdw];omega
       ·show(t.rev++_).length≤_;rw[List.length_append];omega
     ·cases h
  ·cases h
theorem znj(log:List ByteArray):∀(f pos:Nat) (seq:Int) (acc:List Tx),log.length - pos≤f→(∀t∈acc,z5d log.length t)→seq≤2147483647→(∀t∈(scanP log pos seq acc).1,z5d log.length t)∧seq+((scanP log pos seq acc).1.length:Int)≤2147483647+(acc.length:Int)∧(pos≤log.length→(scanP log pos seq acc).2≤log.length):=by
 intro f
 induction f with
 |zero=>
  intro pos seq acc D A F;rw[scanP];split
  ·rw[zfg,dif_neg (by omega)];exact⟨A,by simp;omega,fun h=>h⟩
  ·exact⟨A,by simp;omega,fun h=>h⟩
 |succ f ih=>
  intro pos seq acc D A F;rw[scanP];split
  ·split
   ·exact⟨A,by simp;omega,fun h=>h⟩
   ·rename_i h2 n t B;have hb:=zdl log seq _ pos _ n t (Nat.le_refl _) B;have E:=(zzc log seq _ pos (zc5 seq) n t (Nat.le_refl _) (by omega) ⟨Nat.zero_le _,Nat.zero_le _,rfl,rfl,rfl,rfl⟩ B).1
    have:=ih n (seq+1) (acc++[t]) (by omega) (fun x hx=>by
     rcases List.mem_append.1 hx with h|h
     ·exact A x h
     ·rw[List.mem_singleton.1 h];exact E) (by omega)
    refine⟨this.1,?_,fun _=>this.2.2 hb.2⟩;have C:=this.2.1;rw[List.length_append,List.length_singleton]at C
    push_cast at C⊢
    omega
  ·exact⟨A,by simp;omega,fun h=>h⟩
theorem zht{d:Dk}(h:scanE d=0):za0 d=true∧(1≤(zan d).seq∧(zan d).seq≤2147483647)∧0≤(zan d).pos∧(zan d).pos≤23∧zar (zal d 0)=(zan d,0)∧(zan d).kind=1:=by
 unfold scanE at h;split at h
 ·rename_i D;exact absurd h D
 ·rename_i D;split at h
  ·cases h
  ·rename_i F
   have E:(zar (zal d 0)).2=0:=by
    by_cases A:(zar (zal d 0)).2=0
    ·exact A
    ·exact absurd (.inl A) F
   have I:(zan d).kind=1:=by
    by_cases A:(zan d).kind=1
    ·exact A
    ·exact absurd (.inr A) F
   have B:=zk3 E
   have C:readE d 0=0:=by
    by_cases A:readE d 0=0
    ·exact A
    ·exact absurd A D
   refine⟨?_,?_⟩
   ·unfold readE at C;split at C
    ·rename_i A;exact(Bool.and_eq_true_iff.1 A).1
    ·cases C
   ·have h6:goodM (zan d)=0:=B;unfold goodM at B;split at B
    ·cases B
    ·split at B
     ·cases B
     ·rename_i A;have hy:¬((zan d).seq<1∨2147483647<(zan d).seq∨(zan d).pos<0∨23<(zan d).pos):=A;refine⟨by omega,by omega,by omega,?_,I⟩;exact Prod.ext rfl E
theorem zqc{d:Dk}(h:scanE d=0):(∀t∈fndL d,z5d 24 t)∧(1≤fndN d∧fndN d≤2147483647)∧0≤fndP d∧fndP d≤23:=by
 obtain⟨_,⟨q1,A⟩,p1,p2,_,_⟩:=zht h;have:=znj (logOf d (zan d).pos) 24 0 (zan d).seq [] (by rw[za4];omega) (fun t ht=>by cases ht) A;rw[za4]at this;rw[fndL,fndN,fndP,if_pos h,if_pos h,if_pos h];have B:(zan d).seq+((zbt d).1.length:Int)≤2147483647:=by have:=this.2.1;simpa[zbt] using this
 exact⟨this.1,⟨by omega,B⟩,by omega,by omega⟩
theorem zkb{l:List Tx}(h:∀t∈l,za9 t=true)(b:Int):∀s,newestF l b=some s→zba s=true:=by
 have key:∀(l:List Tx) (o:Option ByteArray),(∀t∈l,za9 t=true)→(∀s,o=some s→zba s=true)→∀s,l.foldl (zgn b) o=some s→zba s=true:=by
  intro l
  induction l with
  |nil=>intro o _ E s B;exact E s B
  |cons t l ih=>
   intro o F E s B;rw[List.foldl_cons]at B;refine ih _ (fun x C=>F x (by simp[C])) ?_ s B;intro u A;unfold zgn at A;split at A
   ·have I:=((za3 t).1 (F t (by simp))).2.1.1
    have:∀m:List (Int×ByteArray),zb5 m=true→zai b m=some u→zba u=true:=by
     intro m
     induction m with
     |nil=>intro _ h;cases h
     |cons y m ih2=>
      intro D C;simp only[zb5,List.all_cons,Bool.and_eq_true]at D;rw[zai]at C;split at C
      ·cases C;exact D.1
      ·exact ih2 D.2 C
    exact this _ I A
   ·split at A
    ·cases A
    ·exact E u A
 exact key l none h (fun s B=>by cases B)
theorem zom{f:Int→Option ByteArray}{n:Nat}{x:Int×ByteArray}(h:x∈asN f n):0≤x.1∧x.1<n∧f x.1=some x.2:=by
 induction n with
 |zero=>simp[asN]at h
 |succ n ih=>
  rw[zep]at h;rcases List.mem_append.1 h with h|h
  ·have:=ih h;exact⟨this.1,by omega,this.2.2⟩
  ·unfold zpm at h
   cases hf:f (n:Int) with
   |none=>rw[hf]at h;simp at h
   |some s=>rw[hf]at h;simp at h;subst h;exact⟨by simp,by simp;omega,hf⟩
theorem z2f{d:Dk}(h:scanE d=0)(hg:∀t∈fndL d,za9 t=true):checkE (newestL (fndL d)) (fndP d) (fndN d)=0:=by
 obtain⟨_,⟨q1,q2⟩,p1,p2⟩:=zqc h
 have F:goodM (zbq (fndP d) (fndN d))=0:=by
  unfold goodM zbq;rw[if_neg (by simp),if_neg (by simp;omega),if_neg (by simp),if_neg];rintro(h|h|h|h)
  ·have:=h.1;simp at this
  ·have:=h.1;simp at this
  ·revert h;simp[zbl,za1]
  ·revert h;simp[zbl,za1]
 rw[checkE,F,if_neg (by simp),if_neg];intro E;obtain⟨x,B,A⟩:=List.any_eq_true.1 E;obtain⟨a,b,c⟩:=zom B;have D:=zkb hg x.1 x.2 c;have C:x.2.size=32:=by have:=D;simp[zba]at this;omega
 revert A
 simp[zg4,zap,C];omega
theorem zzd(n:Nat)(hn:n<37):∀(l:List St) (d:Dk),za0 d=true→(∀s∈l,s.1≠2→s.2.1≠(n:Int))→zal (runK d l) n=zal d n∧za0 (runK d l)=true:=by
 intro l
 induction l with
 |nil=>intro d A _;exact⟨rfl,A⟩
 |cons s l ih=>
  intro d A B
  have key:zal (zbc d s) n=zal d n∧za0 (zbc d s)=true:=by
   unfold zbc;by_cases hf:s.1=2
   ·rw[if_pos hf,zcp,if_pos A];exact⟨znb A hn,zhr A⟩
   ·rw[if_neg hf];by_cases he:zie d s.2.1 s.2.2=0
    ·exact⟨(zv7 he n).2 (fun e=>B s (by simp) hf e.symm),zec he⟩
    ·rw[z34 he];exact⟨rfl,A⟩
  have:=ih (zbc d s) key.2 (fun x hx=>B x (by simp[hx]));exact⟨this.1.trans key.1,this.2⟩
structure Ac where
 kind:Int
 h:Int
 b:Int
 n:Int
 text:ByteArray
structure Rp where
 code:Int
 n:Int
 text:ByteArray
def zaq (e:Int):Rp:=⟨e,0,⟨#[]⟩⟩
def vAc (a:Ac):Value:=.agg #[.int .i64 a.kind,.int .i64 a.h,.int .i64 a.b,.int .i64 a.n,.string a.text]
def vRp (r:Rp):Value:=.agg #[.int .i64 r.code,.int .i64 r.n,.string r.text]
def upd (f:Nat→Int)(b x:Int):Nat→Int:=fun k=>if(k:Int)=b then x else f k
def zls (j:Jn)(t:Tx)(e:Int):Jn×Rp:=if e=0 then({j with now:=t},zaq 0) else(j,zaq e)
def zg9 (j:Jn)(a:Ac):Jn×Rp:=
 if changeE j.now a.h a.b (fitT a.text)=0 then
  if j.role a.b.toNat=2 then(j,zaq 8) else({j with role:=upd j.role a.b 1,now:=zaf j.now a.h a.b (fitT a.text)},zaq 0)
 else(j,zaq (changeE j.now a.h a.b (fitT a.text)))
def zjv (j:Jn)(a:Ac):Jn×Rp:=
 if fillE j.now a.h a.b (fitT a.text)=0 then
  if j.role a.b.toNat=1 then(j,zaq 8) else if j.last<j.freed a.b.toNat then(j,zaq 9)
  else({j with role:=upd j.role a.b 2,now:=zao j.now a.h a.b (fitT a.text)},zaq 0)
 else(j,zaq (fillE j.now a.h a.b (fitT a.text)))
def ze6 (j:Jn)(a:Ac):Jn×Rp:=
 if revokeE j.now a.h a.b=0 then
  if j.role a.b.toNat=0 then(j,zaq 8)
  else({j with role:=upd j.role a.b 0,freed:=upd j.freed a.b (zag j.now a.h a.b).seq,now:=zag j.now a.h a.b},zaq 0)
 else(j,zaq (revokeE j.now a.h a.b))
def textJ (j:Jn)(b:Int):ByteArray×Int:=
 match zai b j.now.info with
 |some s=>(s,0)
 |none=>match zai b j.now.data with
  |some s=>(s,0)
  |none=>match zai b j.sealed.info with
   |some s=>(s,0)
   |none=>match zai b j.sealed.data with
    |some s=>(s,0)
    |none=>match zai b (newestL j.done) with
     |some s=>(s,0)
     |none=>(zal j.disk (25+b),readE j.disk (25+b))
def zik (j:Jn)(b:Int):Rp:=
 if b<0∨11<b then zaq 4
 else if(textJ j b).2=0 then⟨0,j.role b.toNat,(textJ j b).1⟩ else zaq (textJ j b).2
def zcg (t:Tx):Bool:=decide (t.info.length=0)&&decide (t.data.length=0)&&decide (t.rev.length=0)
def zcm (j:Jn):Jn×Rp:=
 if j.steps≠[]∨zfm j.now=true then(j,zaq 9)
 else if zcg j.now=true then(j,zaq 4)
 else if 2147483645<j.now.seq then(j,zaq 11)
 else if sealE j.rh j.ru j.now=0 then
  ({j with rh:=zcf j.rh j.ru j.now,ru:=zca j.rh j.ru j.now,sealed:=j.now,now:=zc5 (j.now.seq+1),work:=6,steps:=commitS j.rh j.ru j.now},⟨0,j.now.seq,⟨#[]⟩⟩)
 else(j,zaq (sealE j.rh j.ru j.now))
def zdy (j:Jn)(work:Int)(l:List (Int×ByteArray))(p q:Int):Jn×Int:=
 if checkE l p q=0 then({j with work:=work,steps:=checkS l p q},0) else(j,checkE l p q)
def zfz (j:Jn):Jn×Rp:=
 if j.steps≠[] then(j,zaq 9)
 else if j.done=[] then(j,zaq 4)
 else((zdy j 7 (newestL j.done) j.rh (j.last+1)).1,zaq (zdy j 7 (newestL j.done) j.rh (j.last+1)).2)
def zfi (j:Jn):Jn×Rp:=({j with sealed:=zc5 0,done:=j.done++[j.sealed],last:=j.sealed.seq},⟨0,j.sealed.seq,⟨#[]⟩⟩)
def zcr:List Tx→Int→Int
 |[],_=>1
 |t::l,b=>if za7 t.rev b=true then 0 else if(zai b t.info).isSome=true then 1 else zcr l b
def zfj (d:Dk)(p q:Int):Jn:=⟨0,d,p,0,q - 1,false,fun _=>0,fun _=>0,zc5 q,zc5 0,[],[],0,0,0,[]⟩
def zja (j:Jn):Jn:={zfj j.disk j.fP j.fN with acts:=j.acts,role:=fun k=>zcr j.fL.reverse k}
def zbg (j:Jn):Jn×Rp:=
 if j.work=6 then zfi j
 else if j.work=7 then({j with done:=[],ru:=0},zaq 0)
 else if j.work=11 then(zja j,zaq 0)
 else(j,zaq 0)
def zef (j:Jn):Jn×Rp:=
 match j.steps with
 |[]=>(j,zaq 4)
 |s::r=>
  if doneE j.disk s=0 then
   if r=[] then zbg {j with disk:=zbc j.disk s,steps:=r} else({j with disk:=zbc j.disk s,steps:=r},zaq 0)
  else(j,zaq (doneE j.disk s))
def zjb (j:Jn)(q:Int):Jn×Rp:=
 if crashE j.disk q=0 then(⟨j.acts,crashK j.disk q,0,0,j.last,true,fun _=>0,fun _=>0,zc5 0,zc5 0,[],[],0,0,0,[]⟩,zaq 0)
 else(j,zaq (crashE j.disk q))
def zb4 (j:Jn):Jn×Rp:=
 if j.down=false∨j.steps≠[] then(j,zaq 9)
 else if scanE j.disk=0 then
  if checkE (newestL (fndL j.disk)) (fndP j.disk) (fndN j.disk)=0 then
   ({j with work:=11,steps:=checkS (newestL (fndL j.disk)) (fndP j.disk) (fndN j.disk),fL:=fndL j.disk,fN:=fndN j.disk,fP:=fndP j.disk},zaq 0)
  else(j,zaq (checkE (newestL (fndL j.disk)) (fndP j.disk) (fndN j.disk)))
 else(j,zaq (scanE j.disk))
def zav (j:Jn)(a:Ac):Jn×Rp:=
 if a.kind=1 then zls j (zau j.now a.h a.n (24 - j.ru)) (zbd j.now a.h a.n (24 - j.ru))
 else if a.kind=5 then zls j (zb2 j.now a.h) (zcy j.now a.h)
 else if a.kind=2 then zg9 j a
 else if a.kind=3 then zjv j a
 else if a.kind=4 then ze6 j a
 else if a.kind=6 then zcm j
 else if a.kind=7 then zfz j
 else(j,zik j a.b)
def zha (j:Jn)(a:Ac):Jn×Rp:=
 if a.kind<1∨11<a.kind then(j,zaq 3)
 else if a.kind=8 then zef j
 else if a.kind=10 then zjb j a.n
 else if a.kind=11 then zb4 j
 else if j.down=true then(j,zaq 10)
 else zav j a
def doJ (j:Jn)(a:Ac):Jn×Rp:=if 400≤j.acts then(j,zaq 11) else zha {j with acts:=j.acts+1} a
def z1h:Jn:=zfj ⟨encT (zbq 0 1)::List.replicate 36 (fitT ⟨#[]⟩),[]⟩ 0 1
inductive Move (j:Jn)(a:Ac):Jn→Rp→Prop
 |no (e:Int) (he:e≠0):Move j a j (zaq e)
 |read (hd:j.down=false) (hk:a.kind=9) (hb:0≤a.b∧a.b≤11) (ht:(textJ j a.b).2=0):Move j a j ⟨0,j.role a.b.toNat,(textJ j a.b).1⟩
 |begin (hd:j.down=false) (hk:a.kind=1) (he:zbd j.now a.h a.n (24 - j.ru)=0):Move j a {j with now:=zau j.now a.h a.n (24 - j.ru)} (zaq 0)
 |stop (hd:j.down=false) (hk:a.kind=5) (he:zcy j.now a.h=0):Move j a {j with now:=zb2 j.now a.h} (zaq 0)
 |write (hd:j.down=false) (hk:a.kind=2) (he:changeE j.now a.h a.b (fitT a.text)=0) (hr:j.role a.b.toNat≠2):Move j a {j with role:=upd j.role a.b 1,now:=zaf j.now a.h a.b (fitT a.text)} (zaq 0)
 |fill (hd:j.down=false) (hk:a.kind=3) (he:fillE j.now a.h a.b (fitT a.text)=0) (hr:j.role a.b.toNat≠1) (hf:j.freed a.b.toNat≤j.last):Move j a {j with role:=upd j.role a.b 2,now:=zao j.now a.h a.b (fitT a.text)} (zaq 0)
 |revoke (hd:j.down=false) (hk:a.kind=4) (he:revokeE j.now a.h a.b=0) (hr:j.role a.b.toNat≠0):Move j a {j with role:=upd j.role a.b 0,freed:=upd j.freed a.b (zag j.now a.h a.b).seq,now:=zag j.now a.h a.b} (zaq 0)
 |commit (hd:j.down=false) (hk:a.kind=6) (hs:j.steps=[]) (ho:zfm j.now=false) (hm:zcg j.now=false) (hq:j.now.seq≤2147483645) (he:sealE j.rh j.ru j.now=0):
   Move j a {j with rh:=zcf j.rh j.ru j.now,ru:=zca j.rh j.ru j.now,sealed:=j.now,now:=zc5 (j.now.seq+1),work:=6,steps:=commitS j.rh j.ru j.now} ⟨0,j.now.seq,⟨#[]⟩⟩
 |check (hd:j.down=false) (hk:a.kind=7) (hs:j.steps=[]) (hn:j.done≠[]) (he:checkE (newestL j.done) j.rh (j.last+1)=0):
   Move j a {j with work:=7,steps:=checkS (newestL j.done) j.rh (j.last+1)} (zaq 0)
 |step (hk:a.kind=8) (s:St) (r:List St) (hs:j.steps=s::r) (he:doneE j.disk s=0) (hr:r≠[]):Move j a {j with disk:=zbc j.disk s,steps:=r} (zaq 0)
 |last (hk:a.kind=8) (s:St) (hs:j.steps=[s]) (he:doneE j.disk s=0):Move j a (zbg {j with disk:=zbc j.disk s,steps:=[]}).1 (zbg {j with disk:=zbc j.disk s,steps:=[]}).2
 |crash (hk:a.kind=10) (he:crashE j.disk a.n=0):Move j a ⟨j.acts,crashK j.disk a.n,0,0,j.last,true,fun _=>0,fun _=>0,zc5 0,zc5 0,[],[],0,0,0,[]⟩ (zaq 0)
 |back (hk:a.kind=11) (hd:j.down=true) (hs:j.steps=[]) (hE:scanE j.disk=0) (hc:checkE (newestL (fndL j.disk)) (fndP j.disk) (fndN j.disk)=0):
   Move j a {j with work:=11,steps:=checkS (newestL (fndL j.disk)) (fndP j.disk) (fndN j.disk),fL:=fndL j.disk,fN:=fndN j.disk,fP:=fndP j.disk} (zaq 0)
theorem zu0{j:Jn}{a:Ac}{t:Tx}{e:Int}(h:e=0→Move j a {j with now:=t} (zaq 0)):Move j a (zls j t e).1 (zls j t e).2:=by
 rw[zls];split
 ·rename_i A;exact h A
 ·rename_i A;exact .no _ A
theorem zqq{j:Jn}{a:Ac}(hd:j.down=false)(h1:1≤a.kind)(h2:a.kind≤11)(h8:a.kind≠8)(h10:a.kind≠10)(h11:a.kind≠11):Move j a (zav j a).1 (zav j a).2:=by
 rw[zav];split
 ·rename_i B;exact zu0 fun A=>.begin hd B A
 split
 ·rename_i B;exact zu0 fun A=>.stop hd B A
 split
 ·rename_i B;rw[zg9];split
  ·rename_i A;split
   ·exact .no _ (by decide)
   ·rename_i C;exact .write hd B A C
  ·rename_i A;exact .no _ A
 split
 ·rename_i B;rw[zjv];split
  ·rename_i A;split
   ·exact .no _ (by decide)
   ·rename_i C;split
    ·exact .no _ (by decide)
    ·rename_i hf;exact .fill hd B A C (by omega)
  ·rename_i A;exact .no _ A
 split
 ·rename_i B;rw[ze6];split
  ·rename_i A;split
   ·exact .no _ (by decide)
   ·rename_i C;exact .revoke hd B A C
  ·rename_i A;exact .no _ A
 split
 ·rename_i B;rw[zcm];split
  ·exact .no _ (by decide)
  ·rename_i hb;simp only[not_or,ne_eq,Decidable.not_not,Bool.not_eq_true]at hb;split
   ·exact .no _ (by decide)
   ·rename_i I;split
    ·exact .no _ (by decide)
    ·rename_i hq;split
     ·rename_i A;exact .commit hd B hb.1 hb.2 (by simpa using I) (by omega) A
     ·rename_i A;exact .no _ A
 split
 ·rename_i B;rw[zfz];split
  ·exact .no _ (by decide)
  ·rename_i E;split
   ·exact .no _ (by decide)
   ·rename_i F;by_cases A:checkE (newestL j.done) j.rh (j.last+1)=0
    ·rw[zdy,if_pos A];exact .check hd B (by simpa using E) F A
    ·rw[zdy,if_neg A];exact .no _ A
 ·rename_i k1 k5 k2 k3 k4 k6 k7;have B:a.kind=9:=by omega
  rw[zik];split
  ·exact .no _ (by decide)
  ·rename_i hb;split
   ·rename_i D;exact .read hd B (by omega) D
   ·rename_i D;exact .no _ D
theorem zzj(j:Jn)(a:Ac):Move j a (zha j a).1 (zha j a).2:=by
 rw[zha];split
 ·exact .no _ (by decide)
 rename_i C;split
 ·rename_i B;unfold zef
  cases hs:j.steps with
  |nil=>exact .no _ (by decide)
  |cons s r=>
   by_cases A:doneE j.disk s=0
   ·by_cases C:r=[]
    ·subst C;simp only[A,if_true];exact .last B s hs A
    ·simp only[A,if_true,C,if_false];exact .step B s r hs A C
   ·simp only[A,if_false];exact .no _ A
 split
 ·rename_i B;rw[zjb];split
  ·rename_i A;exact .crash B A
  ·rename_i A;exact .no _ A
 split
 ·rename_i B;rw[zb4];split
  ·exact .no _ (by decide)
  ·rename_i hb;simp only[not_or,ne_eq,Decidable.not_not,Bool.not_eq_false]at hb;split
   ·rename_i D;split
    ·rename_i E;exact .back B hb.1 hb.2 D E
    ·rename_i E;exact .no _ E
   ·rename_i D;exact .no _ D
 split
 ·exact .no _ (by decide)
 ·rename_i J I F hd;exact zqq (by simpa using hd) (by omega) (by omega) J I F
def Only (d:Dk)(n:Nat)(v:ByteArray):Prop:=∀s∈ways d n,s=v
theorem zqt(l:List ByteArray)(n:Nat):ways ⟨l,[]⟩ n=[l.getD n ByteArray.empty]:=rfl
theorem zot{d:Dk}{m:Int}{t:ByteArray}(h:zie d m t=0)(n:Nat):ways (zho d m t) n=if m=(n:Int) then ways d n++[t] else ways d n:=by
 rw[ze5 h,ways,ways];show d.safe.getD n ByteArray.empty::zcl n (d.wr++[(m,t)])=_;rw[zg2];by_cases e:m=(n:Int)
 ·rw[if_pos e,if_pos e];rfl
 ·rw[if_neg e,if_neg e]
theorem zqu{d:Dk}(n:Nat):zcj d n∈ways d n:=by
 have:∀(l:List (Int×ByteArray)) (z:ByteArray),zem n z l∈z::zcl n l:=by
  intro l
  induction l with
  |nil=>intro z;simp[zem]
  |cons x l ih=>
   intro z;rw[zem,zcl];by_cases e:x.1=(n:Int)
   ·rw[if_pos e,if_pos e];exact List.mem_cons_of_mem _ (ih x.2)
   ·rw[if_neg e,if_neg e];exact ih z
 have h:=this d.wr (d.safe.getD n ByteArray.empty);rw[zcj,Int.toNat_natCast];exact h
theorem Only.last{d:Dk}{n:Nat}{v:ByteArray}(h:Only d n v):zcj d n=v:=h _ (zqu n)
theorem Only.read{d:Dk}{n:Nat}{v:ByteArray}(h:Only d n v)(hg:za0 d=true)(hn:n<37):zal d n=v:=by
 rw[zal,hg,zhs hn];exact h.last
theorem zlu{l:List ByteArray}(hg:za0 ⟨l,[]⟩=true){n:Nat}(hn:n<37):Only ⟨l,[]⟩ n (zal ⟨l,[]⟩ n):=by
 intro s A;rw[zqt]at A;rw[zg3 hg hn]
 simpa using A
theorem zdo{d:Dk}(hg:za0 d=true){n:Nat}(hn:n<37):Only (zcp d) n (zal d n):=by
 rw[zcp,if_pos hg,←znb hg hn];exact zlu (zhr hg) hn
theorem zed{d:Dk}{m:Int}{t:ByteArray}(hg:za0 d=true)(hp:zbz m=true)(hf:zba t=true)(hl:d.wr.length<200):zie d m t=0:=by
 rw[zie,hg,hp,hf];simp;omega
theorem zou{d:Dk}(hg:za0 d=true):(zcp d).wr=[]:=by rw[zcp,if_pos hg]
theorem zu3{d:Dk}(hg:za0 d=true):za0 (zcp d)=true:=by rw[zcp,if_pos hg];exact zhr hg
def zdc (s:St):Prop:=s.1=2∨(zbz s.2.1=true∧zba s.2.2=true)
theorem zhb{d:Dk}{s:St}(hs:zdc s)(hg:za0 d=true)(hl:d.wr.length<200):za0 (zbc d s)=true∧(zbc d s).wr.length≤d.wr.length+1:=by
 unfold zbc;by_cases h2:s.1=2
 ·rw[if_pos h2];exact⟨zu3 hg,by rw[zou hg];simp⟩
 ·rw[if_neg h2];obtain⟨C,B⟩:=hs.resolve_left h2;have A:=zed hg C B hl;refine⟨zec A,?_⟩;rw[ze5 A];simp
theorem zjc{d:Dk}{s:St}(hs:zdc s)(hg:za0 d=true)(hl:d.wr.length<200){n:Nat}(hn:n<37){v:ByteArray}(hv:Only d n v)(hne:s.1≠2→s.2.1≠(n:Int)):Only (zbc d s) n v:=by
 unfold zbc;by_cases h2:s.1=2
 ·rw[if_pos h2];have:=zdo hg hn
  rwa [hv.read hg hn]at this
 ·rw[if_neg h2];obtain⟨C,B⟩:=hs.resolve_left h2;intro x A;rw[zot (zed hg C B hl),if_neg (hne h2)]at A;exact hv x A
theorem zcn:∀(l:List St) (d:Dk),(∀s∈l,zdc s)→za0 d=true→d.wr.length+l.length≤200→za0 (runK d l)=true∧(runK d l).wr.length≤d.wr.length+l.length:=by
 intro l
 induction l with
 |nil=>intro d _ A _;exact⟨A,by simp[runK]⟩
 |cons s l ih=>
  intro d B A D;simp only[List.length_cons]at D;have E:=zhb (B s (by simp)) A (by omega);have C:=ih (zbc d s) (fun x hx=>B x (by simp[hx])) E.1 (by omega);refine⟨C.1,?_⟩;have:=C.2;simp only[List.length_cons];show(runK (zbc d s) l).wr.length≤_;omega
theorem zhu{n:Nat}(hn:n<37){v:ByteArray}:∀(l:List St) (d:Dk),(∀s∈l,zdc s)→za0 d=true→d.wr.length+l.length≤200→Only d n v→(∀s∈l,s.1≠2→s.2.1≠(n:Int))→Only (runK d l) n v:=by
 intro l
 induction l with
 |nil=>intro d _ _ _ B _;exact B
 |cons s l ih=>
  intro d C D E B A;simp only[List.length_cons]at E;have F:=zhb (C s (by simp)) D (by omega);exact ih (zbc d s) (fun x hx=>C x (by simp[hx])) F.1 (by omega) (zjc (C s (by simp)) D (by omega) hn B (A s (by simp))) (fun x hx=>A x (by simp[hx]))
theorem zcb(d:Dk)(l r:List St):runK d (l++r)=runK (runK d l) r:=List.foldl_append
def zov (cs:List (Int×ByteArray)):Prop:=(cs.map (·.1)).Nodup∧(∀x∈cs,0≤x.1∧x.1≤11∧zba x.2=true)∧cs.length≤12
theorem zd9{cs:List (Int×ByteArray)}(h:∀x∈cs,0≤x.1∧x.1≤11∧zba x.2=true):(∀s∈homeS cs,zdc s)∧∀n:Nat,n<25→∀s∈homeS cs,s.1≠2→s.2.1≠(n:Int):=by
 have key:∀s∈homeS cs,(∃x∈cs,s=zbm (25+x.1) x.2)∨s=zb1:=by
  intro s A;rw[homeS]at A;rcases List.mem_append.1 A with h2|h2
  ·obtain⟨x,B,rfl⟩:=List.mem_map.1 h2;exact .inl ⟨x,B,rfl⟩
  ·split at h2
   ·cases h2
   ·exact .inr (List.mem_singleton.1 h2)
 refine⟨fun s A=>?_,fun n hn s A hk=>?_⟩
 ·rcases key s A with⟨x,B,rfl⟩|rfl
  ·have:=h x B;refine .inr ⟨?_,this.2.2⟩;show zbz (25+x.1)=true;simp[zbz];omega
  ·exact .inl rfl
 ·rcases key s A with⟨x,B,rfl⟩|rfl
  ·have:=h x B;show(25:Int)+x.1≠_;omega
  ·exact absurd rfl hk
theorem zwq:∀(cs:List (Int×ByteArray)) (d:Dk),zov cs→za0 d=true→d.wr.length+cs.length≤200→∀x∈cs,zcj (runK d (homeM cs)) (25+x.1)=x.2:=by
 intro cs
 induction cs with
 |nil=>intro d _ _ _ x J;cases J
 |cons c cs ih=>
  intro d Z U Y x J;obtain⟨Q,hb,K⟩:=Z;have S:=hb c (by simp);have C:=List.nodup_cons.1 Q;simp only[List.length_cons]at Y K;have M:zdc (zbm (25+c.1) c.2):=.inr ⟨show zbz (25+c.1)=true by simp[zbz];omega,S.2.2⟩;have a:=zhb M U (by omega);have e:homeM (c::cs)=zbm (25+c.1) c.2::homeM cs:=rfl;rw[e];show zcj (runK (zbc d (zbm (25+c.1) c.2)) (homeM cs)) (25+x.1)=x.2;rcases List.mem_cons.1 J with rfl|hx2
  ·
   have O:zbc d (zbm (25+x.1) x.2)=zho d (25+x.1) x.2:=rfl;have I:zie d (25+x.1) x.2=0:=zed U (by simp[zbz];omega) S.2.2 (by omega)
   have key:∀(l:List (Int×ByteArray)) (D:Dk),(∀y∈l,0≤y.1∧y.1≤11∧zba y.2=true)→(∀y∈l,y.1≠x.1)→za0 D=true→D.wr.length+l.length≤200→zcj (runK D (homeM l)) (25+x.1)=zcj D (25+x.1):=by
    intro l
    induction l with
    |nil=>intro D _ _ _ _;rfl
    |cons y l ih2=>
     intro D E F N L;simp only[List.length_cons]at L;have A:=E y (by simp);have B:zie D (25+y.1) y.2=0:=zed N (by simp[zbz];omega) A.2.2 (by omega);have X:homeM (y::l)=zbm (25+y.1) y.2::homeM l:=rfl;rw[X];show zcj (runK (zho D (25+y.1) y.2) (homeM l)) (25+x.1)=_;have R:=zec B;rw[ih2 _ (fun z hz=>E z (by simp[hz])) (fun z hz=>F z (by simp[hz])) R (by rw[ze5 B];simp;omega),ze5 B,zk4,if_neg];have:=F y (by simp);omega
   rw[O,key cs _ (fun y A=>hb y (by simp[A])) (fun y A e=>C.1 (List.mem_map.2 ⟨y,A,e⟩)) (zec I) (by rw[ze5 I];simp;omega),ze5 I,zk4,if_pos rfl]
  ·exact ih _ ⟨C.2,fun y A=>hb y (by simp[A]),by omega⟩ a.1 (by omega) x hx2
theorem zex{d:Dk}(hg:za0 d=true){n:Nat}(hn:n<37):readE d n=0:=by
 rw[readE,hg,zhs hn];rfl
theorem zs8{X D:Dk}(h:∀n:Nat,1≤n→n≤24→zal X n=zal D n)(p:Int):logOf X p=logOf D p:=by
 unfold logOf;refine List.map_congr_left fun i hi=>?_;have A:=h (1+((p+(i:Int))%24).toNat) (by omega) (by omega);have e:((1+((p+(i:Int))%24).toNat:Nat):Int)=1+(p+(i:Int))%24:=by omega
 rw[e]at A;exact A
theorem zwr{X D:Dk}(hX:za0 X=true)(hD:za0 D=true)(h:∀n:Nat,n≤24→zal X n=zal D n):scanE X=scanE D∧fndL X=fndL D∧fndN X=fndN D∧fndP X=fndP D:=by
 have E:zal X 0=zal D 0:=h 0 (by omega);have A:zan X=zan D:=by rw[zan,zan,E]
 have B:scanE X=scanE D:=by
  have F:readE X 0=0:=zex hX (n:=0) (by omega);have I:readE D 0=0:=zex hD (n:=0) (by omega);rw[scanE,scanE,A,E,F,I]
 have C:zbt X=zbt D:=by rw[zbt,zbt,A,zs8 (fun n _ h2=>h n h2)]
 refine⟨B,?_,?_,?_⟩
 ·rw[fndL,fndL,B,C]
 ·rw[fndN,fndN,B,A,C]
 ·rw[fndP,fndP,B,A,C]
theorem zs9{p seq:Int}(h:goodM (zbq p seq)=0):(1≤seq∧seq≤2147483647)∧0≤p∧p≤23:=by
 unfold goodM at h;split at h
 ·cases h
 ·split at h
  ·cases h
  ·rename_i A;have:¬(seq<1∨2147483647<seq∨p<0∨23<p):=A;omega
theorem zzq(f:Int→Option ByteArray)(n:Nat):((asN f n).map (·.1)).Nodup:=by
 induction n with
 |zero=>simp[asN]
 |succ n ih=>
  rw[zep,List.map_append,List.nodup_append];refine⟨ih,?_,?_⟩
  ·unfold zpm;cases f n<;>simp
  ·intro a B b hb;obtain⟨x,C,rfl⟩:=List.mem_map.1 B;obtain⟨y,A,rfl⟩:=List.mem_map.1 hb;have h1:=(zom C).2.1;unfold zpm at A
   cases hf:f (n:Int) with
   |none=>rw[hf]at A;simp at A
   |some s=>rw[hf]at A;simp at A;subst A;simp;omega
theorem zeg{l:List Tx}(hg:∀t∈l,za9 t=true):zov (newestL l):=by
 refine⟨zzq _ _,fun x hx=>?_,zeu _ 12⟩;obtain⟨a,b,c⟩:=zom hx;exact⟨a,by omega,zkb hg _ _ c⟩
def putR (cs:List (Int×ByteArray))(S:ByteArray):List St:=homeS cs++[zbm 0 S,zb1]
section
variable {cs:List (Int×ByteArray)} {S:ByteArray} {d:Dk}
theorem zeh(h:zov cs):(homeS cs).length≤13:=by
 rw[homeS,List.length_append,zck];have:=h.2.2;split<;>simp<;>omega
theorem zjx(h:zov cs)(hS:zba S=true):∀s∈putR cs S,zdc s:=by
 intro s A;rcases List.mem_append.1 A with h1|h1
 ·exact(zd9 h.2.1).1 s h1
 ·rcases List.mem_cons.1 h1 with rfl|h2
  ·exact .inr ⟨rfl,hS⟩
  ·rw[List.mem_singleton.1 h2];exact .inl rfl
theorem zhc(h:zov cs)(hg:za0 d=true)(hw:d.wr=[])(ho:∀n:Nat,n<25→Only d n (zal d n)):za0 (runK d (homeS cs))=true∧(runK d (homeS cs)).wr.length≤13∧(∀n:Nat,n<25→Only (runK d (homeS cs)) n (zal d n))∧∀x∈cs,Only (runK d (homeS cs)) (25+x.1).toNat x.2:=by
 have hl:=zeh h;have A:=zd9 h.2.1;have E:=zcn (homeS cs) d A.1 hg (by rw[hw];simp;omega);refine⟨E.1,by have:=E.2;rw[hw]at this;simp at this;omega,fun n hn=>zhu (by omega) _ d A.1 hg (by rw[hw];simp;omega) (ho n hn) (A.2 n hn),fun x hx=>?_⟩;have C:¬cs.length=0:=by intro e;rw[List.eq_nil_of_length_eq_zero e]at hx;cases hx
 have A0:=h.2.1 x hx;have B:∀s∈homeM cs,zdc s:=fun s hs=>A.1 s (by rw[homeS];exact List.mem_append.2 (.inl hs));have A1:(homeM cs).length≤12:=by rw[zck];exact h.2.2
 have D:=zcn (homeM cs) d B hg (by rw[hw];simp;omega);rw[homeS,if_neg C,zcb];show Only (zcp (runK d (homeM cs))) _ _;have I:=zdo D.1 (n:=(25+x.1).toNat) (by omega);have e:(((25+x.1).toNat:Nat):Int)=25+x.1:=by omega
 have F:=zwq cs d h hg (by rw[hw];have:=h.2.2;simp;omega) x hx
 have J:zal (runK d (homeM cs)) ((25+x.1).toNat:Nat)=x.2:=by
  rw[zal,D.1,zhs (by omega),e];exact F
 rwa [J]at I
theorem zws(h:zov cs)(hS:zba S=true)(hg:za0 d=true)(hw:d.wr=[])(ho:∀n:Nat,n<25→Only d n (zal d n)):za0 (runK d (putR cs S))=true∧Only (runK d (putR cs S)) 0 S∧(∀n:Nat,1≤n→n<25→Only (runK d (putR cs S)) n (zal d n))∧∀x∈cs,Only (runK d (putR cs S)) (25+x.1).toNat x.2:=by
 obtain⟨I,a2,O,L⟩:=zhc h hg hw ho;have C:zie (runK d (homeS cs)) 0 S=0:=zed I rfl hS (by omega);have A:=zec C;have A1:(zho (runK d (homeS cs)) 0 S).wr.length<200:=by rw[ze5 C];simp;omega
 have E:runK d (putR cs S)=zcp (zho (runK d (homeS cs)) 0 S):=by rw[putR,zcb];rfl
 have F:zdc (zbm 0 S):=.inr ⟨rfl,hS⟩
 have keep:∀(n:Nat) (v:ByteArray),n<37→n≠0→Only (runK d (homeS cs)) n v→Only (runK d (putR cs S)) n v:=by
  intro n v D A0 M;rw[E];have J:Only (zho (runK d (homeS cs)) 0 S) n v:=zjc F I (by omega) D M (fun _=>by show(0:Int)≠_;omega);have B:=zdo A D
  rwa [J.read A D]at B
 refine⟨by rw[E];exact zu3 A,?_,fun n J B=>keep n _ (by omega) (by omega) (O n B),fun x hx=>?_⟩
 ·rw[E];have B:=zdo A (n:=0) (by omega);have N:=(zok C).1;have K:zal (zho (runK d (homeS cs)) 0 S) ((0:Nat):Int)=S:=N
  rwa [K]at B
 ·have:=h.2.1 x hx;exact keep _ _ (by omega) (by omega) (L x hx)
theorem zta(h:zov cs)(hS:zba S=true)(hg:za0 d=true)(hw:d.wr=[])(ho:∀n:Nat,n<25→Only d n (zal d n))(k:Nat):za0 (runK d ((putR cs S).take k))=true∧(∀n:Nat,1≤n→n<25→Only (runK d ((putR cs S).take k)) n (zal d n))∧
  ((k<(putR cs S).length∧Only (runK d ((putR cs S).take k)) 0 (zal d 0))∨((∀s∈ways (runK d ((putR cs S).take k)) 0,(k<(putR cs S).length∧s=zal d 0)∨s=S)∧∀x∈cs,Only (runK d ((putR cs S).take k)) (25+x.1).toNat x.2)):=by
 have hl:=zeh h;have A0:(putR cs S).length=(homeS cs).length+2:=by simp[putR]
 by_cases h1:k≤(homeS cs).length
 ·have e:(putR cs S).take k=(homeS cs).take k:=by rw[putR,List.take_append_of_le_length h1]
  have D:=zd9 h.2.1;have A:∀s∈(homeS cs).take k,zdc s:=fun s hs=>D.1 s (List.mem_of_mem_take hs);have C:d.wr.length+((homeS cs).take k).length≤200:=by rw[hw,List.length_take];simp;omega
  rw[e];have key:∀n:Nat,n<25→Only (runK d ((homeS cs).take k)) n (zal d n):=fun n B=>zhu (by omega) _ d A hg C (ho n B) (fun s hs=>D.2 n B s (List.mem_of_mem_take hs));exact⟨(zcn _ d A hg C).1,fun n _ h2=>key n h2,.inl ⟨by omega,key 0 (by omega)⟩⟩
 ·obtain⟨I,a2,J,M⟩:=zhc h hg hw ho;by_cases h2:k=(homeS cs).length+1
  ·have e:(putR cs S).take k=homeS cs++[zbm 0 S]:=by
    rw[putR,List.take_append,List.take_of_length_le (by omega),h2,show(homeS cs).length+1 - (homeS cs).length=1 from by omega];rfl
   have F:zie (runK d (homeS cs)) 0 S=0:=zed I rfl hS (by omega);have E:runK d ((putR cs S).take k)=zho (runK d (homeS cs)) 0 S:=by rw[e,zcb];rfl
   have A:zdc (zbm 0 S):=.inr ⟨rfl,hS⟩
   have keep:∀(n:Nat) (v:ByteArray),n<37→n≠0→Only (runK d (homeS cs)) n v→Only (runK d ((putR cs S).take k)) n v:=by
    intro n v B A1 N;rw[E];exact zjc A I (by omega) B N (fun _=>by show(0:Int)≠_;omega)
   refine⟨by rw[E];exact zec F,fun n h3 h4=>keep n _ (by omega) (by omega) (J n h4),.inr ⟨fun s hs=>?_,fun x hx=>?_⟩⟩
   ·rw[E,zot F,if_pos (show(0:Int)=((0:Nat):Int) from rfl)]at hs;rcases List.mem_append.1 hs with h5|h5
    ·exact .inl ⟨by omega,J 0 (by omega) s h5⟩
    ·exact .inr (List.mem_singleton.1 h5)
   ·have:=h.2.1 x hx;exact keep _ _ (by omega) (by omega) (M x hx)
  ·have e:(putR cs S).take k=putR cs S:=List.take_of_length_le (by omega);rw[e];obtain⟨Q,L,O,K⟩:=zws h hS hg hw ho;exact⟨Q,O,.inr ⟨fun s hs=>.inr (L s hs),K⟩⟩
end
def ztb (d:Dk)(n:Nat)(S:ByteArray→Prop):Prop:=∀s∈ways d n,S s
theorem znl{d:Dk}{s:St}(hs:zdc s)(hg:za0 d=true)(hl:d.wr.length<200){n:Nat}(hn:n<37){S:ByteArray→Prop}(hv:ztb d n S)(hne:s.1≠2→s.2.1=(n:Int)→S s.2.2):ztb (zbc d s) n S:=by
 unfold zbc;by_cases h2:s.1=2
 ·rw[if_pos h2];intro x A;rw[zdo hg hn x A,zal,hg,zhs hn];exact hv _ (zqu n)
 ·rw[if_neg h2];obtain⟨C,B⟩:=hs.resolve_left h2;intro x A;rw[zot (zed hg C B hl)]at A;split at A
  ·rename_i e;rcases List.mem_append.1 A with h|h
   ·exact hv x h
   ·rw[List.mem_singleton.1 h];exact hne h2 e
  ·exact hv x A
theorem zlv{n:Nat}(hn:n<37){S:ByteArray→Prop}:∀(l:List St) (d:Dk),(∀s∈l,zdc s)→za0 d=true→d.wr.length+l.length≤200→ztb d n S→(∀s∈l,s.1≠2→s.2.1=(n:Int)→S s.2.2)→ztb (runK d l) n S:=by
 intro l
 induction l with
 |nil=>intro d _ _ _ B _;exact B
 |cons s l ih=>
  intro d C D E B A;simp only[List.length_cons]at E;have F:=zhb (C s (by simp)) D (by omega);exact ih (zbc d s) (fun x hx=>C x (by simp[hx])) F.1 (by omega) (znl (C s (by simp)) D (by omega) hn B (A s (by simp))) (fun x hx=>A x (by simp[hx]))
theorem zmr{log log':List ByteArray}(l:List (Int×Bool)):∀(i:Nat),(∀j,i≤j→j<i+l.length→log.getD j ByteArray.empty=log'.getD j ByteArray.empty)→copiesAt log i l=copiesAt log' i l:=by
 induction l with
 |nil=>intro i _;rfl
 |cons x r ih=>
  intro i h;rw[copiesAt,copiesAt,h i (Nat.le_refl _) (by simp),ih (i+1) (fun j h1 h2=>h j (by omega) (by simp only[List.length_cons];omega))]
theorem zwt{log log':List ByteArray}(hl:log.length=log'.length){m:Nat}(hm:∀i,i<m→log.getD i ByteArray.empty=log'.getD i ByteArray.empty)(seq:Int):∀(f i:Nat) (t:Tx) (n:Nat) (u:Tx),log.length - i≤f→zfg log seq i t=some (n,u)→n≤m→zfg log' seq i t=some (n,u):=by
 intro f
 induction f with
 |zero=>intro i t n u B h _;rw[zfg,dif_neg (by omega)]at h;cases h
 |succ f ih=>
  intro i t n u B h C;have hb:=zdl log seq _ i t n u (Nat.le_refl _) h;have e:=hm i (by omega);rw[zfg]at h⊢;split at h
  ·rename_i h1;rw[dif_pos (by omega),←e];split at h
   ·cases h
   ·rename_i E;rw[if_neg E];split at h
    ·rename_i A;rw[if_pos A];exact h
    ·rename_i A;rw[if_neg A];split at h
     ·rename_i h4;rw[if_pos (by omega)];have A0:=zdl log seq _ _ _ n u (Nat.le_refl _) h;have D:=zmr (log:=log) (log':=log') (zar (log.getD i ByteArray.empty)).1.tags (i+1) (fun j _ h6=>hm j (by omega));have:=ih _ _ n u (by omega) h C;unfold more at this⊢;rw[D]at this;exact this
     ·cases h
  ·cases h
theorem zu4(log:List ByteArray):∀(f pos:Nat) (seq:Int) (acc:List Tx),log.length - pos≤f→pos≤(scanP log pos seq acc).2∧acc.length≤(scanP log pos seq acc).1.length:=by
 intro f
 induction f with
 |zero=>
  intro pos seq acc A;rw[scanP];split
  ·rw[zfg,dif_neg (by omega)];exact⟨Nat.le_refl _,Nat.le_refl _⟩
  ·exact⟨Nat.le_refl _,Nat.le_refl _⟩
 |succ f ih=>
  intro pos seq acc A;rw[scanP];split
  ·split
   ·exact⟨Nat.le_refl _,Nat.le_refl _⟩
   ·rename_i n t B;have hb:=zdl log seq _ pos _ n t (Nat.le_refl _) B;have:=ih n (seq+1) (acc++[t]) (by omega);rw[List.length_append,List.length_singleton]at this;omega
  ·exact⟨Nat.le_refl _,Nat.le_refl _⟩
theorem ztc{log log':List ByteArray}(hl:log.length=log'.length):∀(f pos:Nat) (seq:Int) (acc:List Tx),log.length - pos≤f→(∀i,i<(scanP log pos seq acc).2→log.getD i ByteArray.empty=log'.getD i ByteArray.empty)→
  scanP log' pos seq acc=scanP log' (scanP log pos seq acc).2 (seq+((scanP log pos seq acc).1.length:Int) - (acc.length:Int)) (scanP log pos seq acc).1:=by
 intro f
 induction f with
 |zero=>
  intro pos seq acc D _
  have e:scanP log pos seq acc=(acc,pos):=by
   rw[scanP];split
   ·rw[zfg,dif_neg (by omega)]
   ·rfl
  rw[e];show scanP log' pos seq acc=scanP log' pos (seq+(acc.length:Int) - (acc.length:Int)) acc;rw[show seq+(acc.length:Int) - (acc.length:Int)=seq by omega]
 |succ f ih=>
  intro pos seq acc D A;by_cases hq:seq<2147483647
  ·cases hr:zfg log seq pos (zc5 seq) with
   |none=>
    have e:scanP log pos seq acc=(acc,pos):=by rw[scanP,dif_pos hq,hr]
    rw[e];show scanP log' pos seq acc=scanP log' pos (seq+(acc.length:Int) - (acc.length:Int)) acc;rw[show seq+(acc.length:Int) - (acc.length:Int)=seq by omega]
   |some x=>
    obtain⟨n,t⟩:=x;have e:scanP log pos seq acc=scanP log n (seq+1) (acc++[t]):=by rw[scanP,dif_pos hq,hr]
    rw[e]at A⊢;have hb:=zdl log seq _ pos _ n t (Nat.le_refl _) hr;have C:=zu4 log _ n (seq+1) (acc++[t]) (Nat.le_refl _);have B:=zwt hl A seq _ pos _ n t (Nat.le_refl _) hr C.1;have E:scanP log' pos seq acc=scanP log' n (seq+1) (acc++[t]):=by rw[scanP,dif_pos hq,B]
    rw[E,ih n (seq+1) (acc++[t]) (by omega) A]
    congr 1
    rw[List.length_append,List.length_singleton]
    push_cast
    omega
  ·have e:scanP log pos seq acc=(acc,pos):=by rw[scanP,dif_neg hq]
   rw[e];show scanP log' pos seq acc=scanP log' pos (seq+(acc.length:Int) - (acc.length:Int)) acc;rw[show seq+(acc.length:Int) - (acc.length:Int)=seq by omega]
theorem zzr{l r:List ByteArray}{j:Nat}(h:j<l.length):(l++r).getD j ByteArray.empty=l.getD j ByteArray.empty:=by
 rw[List.getD,List.getD,List.getElem?_append_left h]
theorem zzs{l r:List ByteArray}(j:Nat):(l++r).getD (l.length+j) ByteArray.empty=r.getD j ByteArray.empty:=by
 rw[List.getD,List.getD,List.getElem?_append_right (by omega),show l.length+j - l.length=j by omega]
def zow (l:List (Mk×List ByteArray)):List ByteArray:=l.flatMap fun x=>encT x.1::x.2
def z4d (N:Int)(x:Mk×List ByteArray):Prop:=goodM x.1=0∧x.1.seq=N∧x.1.kind≠1∧x.1.kind≠4∧x.2.length=x.1.tags.length
theorem zzt(x:Mk×List ByteArray)(l:List (Mk×List ByteArray)):zow (x::l)=encT x.1::(x.2++zow l):=by simp[zow]
def zlw:List (Int×Bool)→List ByteArray→List (Int×ByteArray)
 |x::r,s::l=>(x.1,zff s x.2)::zlw r l
 |_,_=>[]
theorem zox{log:List ByteArray}:∀(g:List (Int×Bool)) (l:List ByteArray) (i:Nat),l.length=g.length→(∀j,j<l.length→log.getD (i+j) ByteArray.empty=l.getD j ByteArray.empty)→copiesAt log i g=zlw g l:=by
 intro g
 induction g with
 |nil=>intro l i _ _;cases l<;>rfl
 |cons x r ih=>
  intro l i A h
  cases l with
  |nil=>simp at A
  |cons s l=>
   rw[copiesAt,zlw];have B:=h 0 (by simp);simp only[Nat.add_zero,List.getD_cons_zero]at B
   rw[B,ih l (i+1) (by simpa using A) (fun j hj=>by
    have:=h (j+1) (by simp;omega);rw[List.getD_cons_succ]at this
    rw[show i+1+j=i+(j+1) by omega];exact this)]
def z5g (t:Tx)(l:List (Mk×List ByteArray)):Tx:={t with rev:=t.rev++l.flatMap (·.1.blocks),info:=t.info++l.flatMap (fun x=>zlw x.1.tags x.2)}
theorem z2j{N:Int}{cm:Mk}(hcm:goodM cm=0)(hcq:cm.seq=N)(hck:cm.kind=4):∀(l:List (Mk×List ByteArray)) (log:List ByteArray) (i:Nat) (t:Tx),(∀x∈l,z4d N x)→i+(zow l).length+1≤log.length→
  (∀j,j<(zow l).length→log.getD (i+j) ByteArray.empty=(zow l).getD j ByteArray.empty)→log.getD (i+(zow l).length) ByteArray.empty=encT cm→zfg log N i t=some (i+(zow l).length+1,z5g t l):=by
 intro l
 induction l with
 |nil=>
  intro log i t _ B _ h;have e:log.getD i ByteArray.empty=encT cm:=h;rw[zfg,dif_pos (by simp[zow]at B;omega),e,zjw hcm,if_neg (by simp[hcq,hck]),if_pos hck];simp[zow,z5g]
 |cons x l ih=>
  intro log i t D B A C;rw[zzt]at B A C⊢;simp only[List.length_cons,List.length_append]at B C;obtain⟨M,J,F,E,K⟩:=D x (by simp);have e:log.getD i ByteArray.empty=encT x.1:=by simpa using A 0 (by simp)
  rw[zfg,dif_pos (by omega),e,zjw M];dsimp only;rw[if_neg (by simp;exact⟨J,F⟩),if_neg E,if_pos (by omega)]
  have L:copiesAt log (i+1) x.1.tags=zlw x.1.tags x.2:=zox _ _ _ K (fun j I=>by
   have:=A (j+1) (by simp;omega);rw[List.getD_cons_succ,zzr I]at this
   rw[show i+1+j=i+(j+1) by omega];exact this)
  have O:∀j,j<(zow l).length→log.getD (i+1+x.1.tags.length+j) ByteArray.empty=(zow l).getD j ByteArray.empty:=by
   intro j I;have:=A (1+x.2.length+j) (by simp;omega);rw[show 1+x.2.length+j=(x.2.length+j)+1 by omega,List.getD_cons_succ,zzs]at this;rw[show i+1+x.1.tags.length+j=i+(x.2.length+j+1) by omega];exact this
  have Q:log.getD (i+1+x.1.tags.length+(zow l).length) ByteArray.empty=encT cm:=by
   rw[show i+1+x.1.tags.length+(zow l).length=i+(x.2.length+(zow l).length+1) by omega];exact C
  rw[ih log _ _ (fun y hy=>D y (by simp[hy])) (by omega) O Q];simp only[List.length_cons,List.length_append,Option.some.injEq,Prod.mk.injEq];refine⟨by omega,?_⟩;simp[z5g,more,L]
def segsOf (t:Tx):List (Mk×List ByteArray):=(if t.rev.length=0 then[] else[(⟨3,t.seq,0,[],t.rev⟩,[])])++(List.range (zc7 t.info.length 10)).map fun k=>(⟨2,t.seq,0,tagsOf (partOf t.info k),[]⟩,textsOf (partOf t.info k))
theorem zhv(t:Tx):zow (segsOf t)=logB t:=by
 unfold zow segsOf logB zwm zh6;rw[List.flatMap_append,List.flatMap_map]
 congr 1
 split<;>simp
theorem zwu{l:List (Int×ByteArray)}(h:zbl (blksOf l)=true)(k:Nat):zbl ((tagsOf (partOf l k)).map (·.1))=true:=by
 have e:(tagsOf (partOf l k)).map (·.1)=blksOf (partOf l k):=by simp[tagsOf,blksOf]
 rw[e];rw[za5]at h⊢
 have A:(blksOf (partOf l k)).Sublist (blksOf l):=by
  unfold blksOf partOf;exact((List.take_sublist _ _).trans (List.drop_sublist _ _)).map _
 exact⟨fun x hx=>h.1 x (A.subset hx),h.2.sublist A⟩
theorem ztd{t:Tx}(hg:za9 t=true):∀x∈segsOf t,z4d t.seq x:=by
 obtain⟨⟨q1,q2⟩,_,⟨E,_,I⟩,_⟩:=(za3 t).1 hg;have hs:=zaw hg;intro x B;unfold segsOf at B;rcases List.mem_append.1 B with h|h
 ·split at h
  ·cases h
  ·rename_i h0;rw[List.mem_singleton.1 h];refine⟨?_,rfl,by simp,by simp,rfl⟩;unfold goodM;rw[if_neg (by simp),if_neg (by simp;omega),if_neg (by simp),if_neg];rintro(⟨A,_⟩|⟨_,A⟩|A|A)
   ·simp at A
   ·simp only at A;omega
   ·simp[zbl,za1]at A
   ·simp only[I]at A;cases A
 ·obtain⟨k,F,rfl⟩:=List.mem_map.1 h;have C:=List.mem_range.1 F;have D:=zgh t.info k
  have A0:1≤(partOf t.info k).length∧(partOf t.info k).length≤10:=by
   rw[D];unfold zc7 at C;unfold zfp;split<;>omega
  refine⟨?_,rfl,by simp,by simp,by simp[tagsOf,textsOf]⟩;unfold goodM;rw[if_neg (by simp),if_neg (by simp;omega),if_neg (by simp),if_neg];rintro(⟨_,A⟩|⟨A,_⟩|A|A)
  ·simp only[tagsOf,List.length_map]at A;omega
  ·simp at A
  ·simp only[zwu E k]at A;cases A
  ·simp[zbl,za1]at A
theorem zzu(l:List (Int×ByteArray)):zlw (tagsOf l) (textsOf l)=l:=by
 induction l with
 |nil=>rfl
 |cons x r ih=>
  show(x.1,zff (escT x.2) (isMagic x.2))::zlw (tagsOf r) (textsOf r)=x::r;rw[ih,zzp]
theorem zte{l:List (Int×ByteArray)}(h:l.length≤12):(List.range (zc7 l.length 10)).flatMap (partOf l)=l:=by
 by_cases h0:l.length=0
 ·rw[List.eq_nil_of_length_eq_zero h0];rfl
 ·by_cases h1:l.length≤10
  ·have e:zc7 l.length 10=1:=by unfold zc7;omega
   rw[e];simp[partOf,List.range_succ];exact List.take_of_length_le h1
  ·have e:zc7 l.length 10=2:=by unfold zc7;omega
   rw[e];have A:(l.drop 10).take 10=l.drop 10:=List.take_of_length_le (by rw[List.length_drop];omega);simp[partOf,List.range_succ,A]
def toldOf (t:Tx):Tx:=⟨t.seq,t.info,[],t.rev,⟨false,0⟩,⟨false,0⟩,⟨false,0⟩⟩
theorem zzv{t:Tx}(hg:za9 t=true):z5g (zc5 t.seq) (segsOf t)=toldOf t:=by
 have B:=zaw hg
 have C:(segsOf t).flatMap (·.1.blocks)=t.rev:=by
  unfold segsOf;rw[List.flatMap_append,List.flatMap_map];split
  ·rename_i h;simp[List.eq_nil_of_length_eq_zero h]
  ·simp
 have A:(segsOf t).flatMap (fun x=>zlw x.1.tags x.2)=t.info:=by
  unfold segsOf;rw[List.flatMap_append,List.flatMap_map]
  have:((List.range (zc7 t.info.length 10)).flatMap fun k=>zlw (tagsOf (partOf t.info k)) (textsOf (partOf t.info k)))=t.info:=by
   rw[show(fun k=>zlw (tagsOf (partOf t.info k)) (textsOf (partOf t.info k)))=partOf t.info from funext fun k=>zzu _];exact zte B.1
  split
  ·simpa using this
  ·simpa[zlw] using this
 unfold z5g toldOf zc5;rw[C,A];simp
theorem zlx{t:Tx}(hg:za9 t=true):goodM ⟨4,t.seq,0,[],[]⟩=0:=by
 obtain⟨⟨q1,q2⟩,_⟩:=(za3 t).1 hg;unfold goodM;rw[if_neg (by simp),if_neg (by simp;omega),if_neg (by simp),if_neg];simp[zbl,za1]
theorem zjd{ps:List Int}{l:List ByteArray}{s:St}(h:s∈putS ps l):∃i,i<l.length∧i<ps.length∧s=zbm (1+ps.getD i 0) (l.getD i ByteArray.empty):=by
 obtain⟨i,A⟩:=List.getElem?_of_mem h;have B:=(List.getElem?_eq_some_iff.1 A).1;unfold putS at A B;rw[List.length_zipWith]at B;have C:i<l.length:=by omega
 have D:i<ps.length:=by omega
 refine⟨i,C,D,?_⟩;rw[List.getElem?_zipWith,List.getElem?_eq_getElem C,List.getElem?_eq_getElem D]at A;simp only[Option.some.injEq]at A;rw[←A,List.getD,List.getD,List.getElem?_eq_getElem C,List.getElem?_eq_getElem D];rfl
theorem zzw:∀(l:List ByteArray) (ps:List Int) (d:Dk),l.length≤ps.length→ps.Nodup→(∀p∈ps,0≤p∧p≤23)→(∀s∈l,zba s=true)→za0 d=true→d.wr.length+l.length≤200→∀i,i<l.length→zal (runK d (putS ps l)) (1+ps.getD i 0)=l.getD i ByteArray.empty:=by
 intro l
 induction l with
 |nil=>intro ps d _ _ _ _ _ _ i C;simp at C
 |cons s l ih=>
  intro ps d I F J D N M i C
  cases ps with
  |nil=>simp at I
  |cons p ps=>
   have A0:=J p (by simp);simp only[List.length_cons]at I M C;have B:zie d (1+p) s=0:=zed N (by simp[zbz];omega) (D s (by simp)) (by omega);have e:runK d (putS (p::ps) (s::l))=runK (zho d (1+p) s) (putS ps l):=rfl;have A:=List.nodup_cons.1 F;rw[e]
   cases i with
   |succ i=>
    rw[List.getD_cons_succ,List.getD_cons_succ];exact ih ps _ (by omega) A.2 (fun x hx=>J x (by simp[hx])) (fun x hx=>D x (by simp[hx])) (zec B) (by rw[ze5 B];simp;omega) i (by omega)
   |zero=>
    rw[List.getD_cons_zero,List.getD_cons_zero]
    have L:=(zzd (1+p).toNat (by omega) (putS ps l) _ (zec B) (fun x hx _=>by
     obtain⟨j,_,K,rfl⟩:=zjd hx;show 1+ps.getD j 0≠_;intro hc;have E:ps.getD j 0=p:=by omega
     refine A.1 ?_;rw[←E,List.getD,List.getElem?_eq_getElem K]
     exact List.getElem_mem K)).1
    rw[show(((1+p).toNat:Nat):Int)=1+p by omega]at L;rw[L];exact(zok B).1
theorem zqv(h:Int){n:Nat}(hn:n≤24):(zbw h n).Nodup:=by
 unfold zbw List.Nodup;rw[List.pairwise_map];refine List.Pairwise.imp_of_mem ?_ (List.pairwise_lt_range (n:=n));intro a b A hb A0;have:=List.mem_range.1 A;have:=List.mem_range.1 hb;omega
theorem zu5{t:Tx}(hg:za9 t=true):∀s∈logB t,zba s=true:=by
 intro s C;rw[←zhv,zow]at C;obtain⟨x,A,h⟩:=List.mem_flatMap.1 C;rcases List.mem_cons.1 h with rfl|h
 ·have:=zer (ztd hg x A).1;simp[zba];omega
 ·unfold segsOf at A;rcases List.mem_append.1 A with h2|h2
  ·split at h2
   ·cases h2
   ·rw[List.mem_singleton.1 h2]at h;cases h
  ·obtain⟨k,_,rfl⟩:=List.mem_map.1 h2;obtain⟨c,E,rfl⟩:=List.mem_map.1 h;have B:c∈t.info:=List.mem_of_mem_drop (List.mem_of_mem_take E);have D:=((za3 t).1 hg).2.1.1;have:=List.all_eq_true.1 D c B;simp only[zba]at this⊢;rw[zos];exact this
theorem zhw{t:Tx}(hg:za9 t=true):∀x∈t.data,0≤x.1∧x.1≤11∧zba x.2=true:=by
 obtain⟨_,⟨_,C⟩,⟨_,D,_⟩,_⟩:=(za3 t).1 hg;intro x A;have B:=((za5 _).1 D).1 x.1 (List.mem_map.2 ⟨x,A,rfl⟩);exact⟨B.1,B.2,List.all_eq_true.1 C x A⟩
def sealA (P:Int)(t:Tx):List St:=homeS t.data++putS (zbw P ((logB t).length+1)) (logB t)
def sealF (t:Tx):List St:=if 0<t.rev.length+t.info.length then[zb1] else[]
def zhd (P:Int)(t:Tx):St:=zbm (1+(P+((logB t).length:Int))%24) (zkv t)
theorem zbs{P U:Int}{t:Tx}(h:sealE P U t=0):commitS P U t=sealA P t++sealF t++[zhd P t,zb1]∧za9 t=true∧(0≤P∧P≤23)∧0≤U∧U+((logB t).length:Int)+1≤24:=by
 obtain⟨D,_,hl,_⟩:=zlr h;have A:=h;unfold sealE at A;split at A
 ·cases A
 ·rename_i I;have C:zgo P U=true:=by cases e:zgo P U;exact absurd (.inl e) I;rfl
  obtain⟨F,p2,u1,u2⟩:=zqf C;have B:=zaw D;have hn:=zd8 t B.1 B.2.2
  have E:sealP P U t=zbw P ((logB t).length+1):=by
   rw[sealP,if_pos h,takeL,if_pos A]
   congr 1;omega
  refine⟨?_,D,⟨F,p2⟩,u1,?_⟩
  ·rw[commitS,if_pos h,E,zdi _ _ _ (by omega)];simp[sealA,sealF,zhd]
  ·unfold takeE at A;split at A
   ·cases A
   ·split at A
    ·cases A
    ·omega
theorem z2k{t:Tx}(h:¬0<t.rev.length+t.info.length):logB t=[]:=by
 have A:t.rev=[]:=List.eq_nil_of_length_eq_zero (by omega);have B:t.info=[]:=List.eq_nil_of_length_eq_zero (by omega);rw[logB,zwm,A,B];rfl
section
variable {D:Dk} {P U:Int} {t:Tx}
theorem zey(h:sealE P U t=0):(∀s∈commitS P U t,zdc s)∧(commitS P U t).length≤50:=by
 obtain⟨e,A,hP,_,hU⟩:=zbs h;have hd:=zd9 (zhw A);have D:=zaw A;refine⟨?_,?_⟩
 ·rw[e];intro s D;rcases List.mem_append.1 D with h1|h1
  ·rcases List.mem_append.1 h1 with h1|h1
   ·rcases List.mem_append.1 h1 with h1|h1
    ·exact hd.1 s h1
    ·obtain⟨i,C,B,rfl⟩:=zjd h1;rw[zbp]at B;refine .inr ⟨?_,?_⟩
     ·show zbz (1+(zbw P _).getD i 0)=true;rw[zdi _ _ _ B];simp[zbz];omega
     ·show zba ((logB t).getD i ByteArray.empty)=true;rw[List.getD,List.getElem?_eq_getElem C];exact zu5 A _ (List.getElem_mem C)
   ·unfold sealF at h1;split at h1
    ·rw[List.mem_singleton.1 h1];exact .inl rfl
    ·cases h1
  ·rcases List.mem_cons.1 h1 with rfl|h1
   ·refine .inr ⟨?_,?_⟩
    ·show zbz (1+(P+_)%24)=true;simp[zbz];omega
    ·show zba (zkv t)=true;have:=zer (zlx A);simp[zba,zkv];omega
   ·rw[List.mem_singleton.1 h1];exact .inl rfl
 ·rw[e];have h1:(homeS t.data).length≤13:=by rw[homeS,List.length_append,zck];split<;>simp<;>omega
  have E:(putS (zbw P ((logB t).length+1)) (logB t)).length=(logB t).length:=zd7 (by rw[zbp];omega);have h3:(sealF t).length≤1:=by unfold sealF;split<;>simp
  simp only[sealA,List.length_append,List.length_cons,List.length_nil,E];omega
theorem zla(h:sealE P U t=0){n:Nat}(hn:n<25):∀s∈sealA P t++sealF t,s.1≠2→s.2.1=(n:Int)→∃i,i<(logB t).length∧(n:Int)=1+(P+(i:Int))%24∧s.2.2=(logB t).getD i ByteArray.empty:=by
 obtain⟨_,E,_,_,_⟩:=zbs h
 intro s D C B
 rcases List.mem_append.1 D with h1|h1
 ·rcases List.mem_append.1 h1 with h1|h1
  ·exact absurd B ((zd9 (zhw E)).2 n hn s h1 C)
  ·obtain⟨i,F,A,rfl⟩:=zjd h1;rw[zbp]at A;refine⟨i,F,?_,rfl⟩;rw[←B];show 1+(zbw P _).getD i 0=_;rw[zdi _ _ _ A]
 ·unfold sealF at h1;split at h1
  ·rw[List.mem_singleton.1 h1]at C;exact absurd rfl C
  ·cases h1
theorem zzx(hg:za0 D=true)(hw:D.wr=[])(h:sealE P U t=0){k:Nat}(hk:k≤(commitS P U t).length):
  za0 (runK D ((commitS P U t).take k))=true∧
  (∀n:Nat,n<25→(∀i:Nat,i≤(logB t).length→(n:Int)≠1+(P+(i:Int))%24)→Only (runK D ((commitS P U t).take k)) n (zal D n))∧
  ((k+1<(commitS P U t).length∧(∀(n i:Nat),i<(logB t).length→(n:Int)=1+(P+(i:Int))%24→ztb (runK D ((commitS P U t).take k)) n (fun s=>s=zal D n∨s=(logB t).getD i ByteArray.empty))∧(∀n:Nat,(n:Int)=1+(P+((logB t).length:Int))%24→Only (runK D ((commitS P U t).take k)) n (zal D n)))∨
   ((commitS P U t).length≤k+1∧(∀(n i:Nat),i<(logB t).length→(n:Int)=1+(P+(i:Int))%24→Only (runK D ((commitS P U t).take k)) n ((logB t).getD i ByteArray.empty))∧(∀n:Nat,(n:Int)=1+(P+((logB t).length:Int))%24→ztb (runK D ((commitS P U t).take k)) n (fun s=>(k<(commitS P U t).length∧s=zal D n)∨s=zkv t)))):=by
 obtain⟨e,l,hP,A5,hU⟩:=zbs h;obtain⟨d,A3⟩:=zey h
 have R:∀n:Nat,n<37→Only D n (zal D n):=by
  intro n F;obtain⟨sf,wr⟩:=D;simp only at hw;subst hw;exact zlu hg F
 have K:∀s∈(commitS P U t).take k,zdc s:=fun s A=>d s (List.mem_of_mem_take A);have S:D.wr.length+((commitS P U t).take k).length≤200:=by rw[hw,List.length_take];simp;omega
 have u:∀{n:Nat},n<25→∀s∈commitS P U t,s.1≠2→s.2.1=(n:Int)→(∃i,i<(logB t).length∧(n:Int)=1+(P+(i:Int))%24∧s.2.2=(logB t).getD i ByteArray.empty)∨((n:Int)=1+(P+((logB t).length:Int))%24∧s=zhd P t):=by
  intro n F s A C E
  rw[e]at A;rcases List.mem_append.1 A with h1|h1
  ·exact .inl (zla h F s h1 C E)
  ·rcases List.mem_cons.1 h1 with rfl|h1
   ·exact .inr ⟨E.symm,rfl⟩
   ·rw[List.mem_singleton.1 h1]at C;exact absurd rfl C
 have z:=(zcn _ D K hg S).1;refine⟨z,?_,?_⟩
 ·intro n F r;refine zhu (by omega) _ D K hg S (R n (by omega)) fun s A C E=>?_;rcases u F s (List.mem_of_mem_take A) C E with⟨i,L,h1,_⟩|⟨h1,_⟩
  ·exact r i (by omega) h1
  ·exact r _ (Nat.le_refl _) h1
 ·have m:(commitS P U t).length=(sealA P t++sealF t).length+2:=by rw[e,List.length_append];rfl
  by_cases hk1:k+1<(commitS P U t).length
  ·have c:(commitS P U t).take k=(sealA P t++sealF t).take k:=by rw[e,List.take_append_of_le_length (by omega)]
   refine .inl ⟨hk1,?_,?_⟩
   ·intro n i L B;have F:n<25:=by omega
    refine zlv (by omega) _ D K hg S (fun s A=>.inl (R n (by omega) s A)) fun s A C E=>?_;rw[c]at A
    obtain⟨j,hj,h1,M⟩:=zla h F s (List.mem_of_mem_take A) C E
    have:j=i:=by omega
    subst this;exact .inr M
   ·intro n B;have F:n<25:=by omega
    refine zhu (by omega) _ D K hg S (R n (by omega)) fun s A C E=>?_;rw[c]at A
    obtain⟨j,hj,h1,M⟩:=zla h F s (List.mem_of_mem_take A) C E
    omega
  ·have N:∀s∈sealA P t++sealF t,zdc s:=fun s A=>d s (by rw[e];exact List.mem_append.2 (.inl A));have O:D.wr.length+(sealA P t++sealF t).length≤200:=by rw[hw];simp at m⊢;omega
   have I:=zcn _ D N hg O
   have Z:∀(n i:Nat),i<(logB t).length→(n:Int)=1+(P+(i:Int))%24→Only (runK D (sealA P t++sealF t)) n ((logB t).getD i ByteArray.empty):=by
    intro n i L B
    have x:0<t.rev.length+t.info.length:=by
     by_cases hx:0<t.rev.length+t.info.length
     ·exact hx
     ·rw[z2k hx]at L;simp at L
    have w:∀s∈sealA P t,zdc s:=fun s A=>N s (List.mem_append.2 (.inl A));have A1:D.wr.length+(sealA P t).length≤200:=by simp at O⊢;omega
    have A0:=zcn _ D w hg A1;have eF:runK D (sealA P t++sealF t)=zcp (runK D (sealA P t)):=by rw[zcb,sealF,if_pos x];rfl
    rw[eF];have h1:=zdo A0.1 (n:=n) (by omega)
    have M:zal (runK D (sealA P t)) n=(logB t).getD i ByteArray.empty:=by
     rw[sealA,zcb];have hd:=zd9 (zhw l)
     have A2:(homeS t.data).length≤13:=by
      have:=zaw l;rw[homeS,List.length_append,zck];split<;>simp<;>omega
     have q:=zcn (homeS t.data) D hd.1 hg (by rw[hw];simp;omega)
     have:=zzw (logB t) (zbw P ((logB t).length+1)) (runK D (homeS t.data)) (by rw[zbp];omega) (zqv P (by omega)) (fun p hp=>by
      unfold zbw at hp;obtain⟨j,_,rfl⟩:=List.mem_map.1 hp
      omega) (zu5 l) q.1 (by have:=q.2;rw[hw]at this;simp at this;omega) i L
     rw[zdi _ _ _ (by omega),←B]at this;exact this
    rwa [M]at h1
   have J:zdc (zhd P t):=d _ (by rw[e];simp);have Y:(runK D (sealA P t++sealF t)).wr.length<200:=by have:=I.2;rw[hw]at this;simp at this m;omega
   have Q:=zhb J I.1 Y;have A4:(zbc (runK D (sealA P t++sealF t)) (zhd P t)).wr.length<200:=by have:=Q.2;have:=I.2;rw[hw]at this;simp at this m;omega
   have X:∀(n:Nat) (v:ByteArray),n<25→(n:Int)≠1+(P+((logB t).length:Int))%24→Only (runK D (sealA P t++sealF t)) n v→Only (zbc (runK D (sealA P t++sealF t)) (zhd P t)) n v:=fun n v F hne hv=>zjc J I.1 Y (by omega) hv (fun _ hx=>hne hx.symm)
   have y:∀n:Nat,(n:Int)=1+(P+((logB t).length:Int))%24→ztb (zbc (runK D (sealA P t++sealF t)) (zhd P t)) n (fun s=>s=zal D n∨s=zkv t):=by
    intro n B;refine znl J I.1 Y (by omega) ?_ (fun _ _=>.inr rfl)
    have:=zhu (n:=n) (by omega) _ D N hg O (R n (by omega)) fun s A C E=>by
     obtain⟨j,hj,h1,M⟩:=zla h (by omega) s A C E
     omega
    exact fun s A=>.inl (this s A)
   refine .inr ⟨by omega,?_⟩;by_cases hk3:k=(commitS P U t).length
   ·have c:runK D ((commitS P U t).take k)=zcp (zbc (runK D (sealA P t++sealF t)) (zhd P t)):=by
     rw[hk3,List.take_length,e,zcb];rfl
    rw[c];refine⟨fun n i L B=>?_,fun n B s A=>?_⟩
    ·have h1:=X n _ (by omega) (by omega) (Z n i L B);have M:=zdo Q.1 (n:=n) (by omega)
     rwa [h1.read Q.1 (by omega)]at M
    ·have M:=zdo Q.1 (n:=n) (by omega) s A;refine .inr ?_;rw[M]
     have he:zie (runK D (sealA P t++sealF t)) (1+(P+((logB t).length:Int))%24) (zkv t)=0:=by
      obtain⟨a,b⟩:=J.resolve_left (by simp[zhd,zbm]);exact zed I.1 a b Y
     have:=(zok he).1;rw[B];exact this
   ·have c:runK D ((commitS P U t).take k)=zbc (runK D (sealA P t++sealF t)) (zhd P t):=by
     have:(commitS P U t).take k=(sealA P t++sealF t)++[zhd P t]:=by
      rw[e,List.take_append,List.take_of_length_le (by omega),show k - (sealA P t++sealF t).length=1 by omega];rfl
     rw[this,zcb];rfl
    rw[c];refine⟨fun n i L B=>X n _ (by omega) (by omega) (Z n i L B),fun n B s A=>?_⟩;rcases y n B s A with h1|h1
    ·exact .inl ⟨by omega,h1⟩
    ·exact .inr h1
end
def z2l (d:Dk):Int:=if(fndP d - (zan d).pos)%24=0∧0<(fndL d).length then 24 else(fndP d - (zan d).pos)%24
theorem ztf(log:List ByteArray)(pos:Nat)(seq:Int)(acc:List Tx):(scanP log pos seq acc=(acc,pos))∨(acc.length<(scanP log pos seq acc).1.length∧pos<(scanP log pos seq acc).2):=by
 rw[scanP];split
 ·split
  ·exact .inl rfl
  ·rename_i n t A;have hb:=zdl log seq _ pos _ n t (Nat.le_refl _) A;have:=zu4 log _ n (seq+1) (acc++[t]) (Nat.le_refl _);rw[List.length_append,List.length_singleton]at this;exact .inr ⟨by omega,by omega⟩
 ·exact .inl rfl
theorem zhx{d:Dk}(h:scanE d=0):z2l d=((zbt d).2:Int)∧(zbt d).2≤24∧fndP d=((zan d).pos+((zbt d).2:Int))%24∧fndN d=(zan d).seq+((zbt d).1.length:Int):=by
 obtain⟨_,⟨q1,C⟩,p1,p2,_,_⟩:=zht h
 have A:(zbt d).2≤24:=by
  have:=(znj (logOf d (zan d).pos) 24 0 (zan d).seq [] (by rw[za4];omega) (fun t ht=>by cases ht) C).2.2 (Nat.zero_le _);rw[za4]at this;exact this
 have B:fndP d=((zan d).pos+((zbt d).2:Int))%24:=by rw[fndP,if_pos h];omega
 have F:=ztf (logOf d (zan d).pos) 0 (zan d).seq [];refine⟨?_,A,B,by rw[fndN,if_pos h]⟩;have D:(fndL d).length=(zbt d).1.length:=by rw[fndL,if_pos h]
 rw[z2l,D];rcases F with e|⟨e1,e2⟩
 ·have E:zbt d=([],0):=e;rw[B,E];rw[if_neg (by simp)];show(((zan d).pos+((0:Nat):Int))%24 - (zan d).pos)%24=((0:Nat):Int);omega
 ·have A0:0<(zbt d).1.length:=e1;have A1:0<(zbt d).2:=e2;split<;>omega
def NoEnd (M:Int)(s:ByteArray):Prop:=(zar s).2=0→(zar s).1.kind=4→(zar s).1.seq<M
theorem NoEnd.mono{M M':Int}{s:ByteArray}(h:NoEnd M s)(hm:M≤M'):NoEnd M' s:=fun a b=>by have:=h a b;omega
theorem zjy{log:List ByteArray}{N M:Int}(h:∀i,i<log.length→NoEnd N (log.getD i ByteArray.empty))(hM:N≤M):∀(f i:Nat) (t:Tx),log.length - i≤f→zfg log M i t=none:=by
 intro f
 induction f with
 |zero=>intro i t C;rw[zfg,dif_neg (by omega)]
 |succ f ih=>
  intro i t C;rw[zfg];split
  ·rename_i D;split
   ·rfl
   ·rename_i A;simp only[not_or,ne_eq,Decidable.not_not]at A;split
    ·rename_i B;have:=h i D A.1 B;omega
    ·split
     ·exact ih _ _ (by omega)
     ·rfl
  ·rfl
theorem zly{t:Tx}(hg:za9 t=true)(M:Int):∀s∈logB t,NoEnd M s:=by
 intro s A;rw[←zhv]at A;obtain⟨x,hx,A⟩:=List.mem_flatMap.1 A;obtain⟨F,_,_,E,_⟩:=ztd hg x hx;rcases List.mem_cons.1 A with rfl|A
 ·intro _ C;rw[zjw F]at C;exact absurd C E
 ·have B:∃c,s=escT c:=by
   rcases List.mem_append.1 hx with hx|hx
   ·split at hx
    ·cases hx
    ·rw[List.mem_singleton.1 hx]at A;cases A
   ·obtain⟨k,_,rfl⟩:=List.mem_map.1 hx;obtain⟨c,_,rfl⟩:=List.mem_map.1 A;exact⟨_,rfl⟩
  obtain⟨c,rfl⟩:=B;intro D;rw[zqs (zzo c)]at D;cases D
theorem zwv{t:Tx}(hg:za9 t=true):NoEnd (t.seq+1) (zkv t):=by
 intro _ _;rw[zkv,zjw (zlx hg)];show t.seq<t.seq+1;omega
structure Crashed (R X:Dk):Prop where
 good:za0 X=true
 clean:X.wr=[]
 at_:∀n:Nat,n<37→zal X n∈ways R n
theorem zww{R:Dk}(hg:za0 R=true){q:Int}(hq:0≤q):crashE R q=0∧Crashed R (crashK R q):=by
 have hd:decide (0≤q)=true:=by simpa using hq
 have A:crashK R q=⟨(zdn R q.toNat 37).1,[]⟩:=by rw[crashK,hg,hd];rfl
 refine⟨by rw[crashE,hg,hd];rfl,by rw[A];exact znk hg _,by rw[A],fun n hn=>?_⟩;rw[A,zg3 (znk hg _) hn];exact zu1 _ _ _ hn
theorem zkg{R:Dk}(hg:za0 R=true)(hw:R.wr=[]):Crashed R R:=by
 refine⟨hg,hw,fun n hn=>?_⟩;obtain⟨sf,wr⟩:=R;simp only at hw;subst hw;rw[zg3 hg hn,zqt];simp
theorem zf5{D:Dk}(hg:za0 D=true)(hw:D.wr=[]){n:Nat}(hn:n<37):Only D n (zal D n):=by
 obtain⟨sf,wr⟩:=D;simp only at hw;subst hw;exact zlu hg hn
structure Tells (D:Dk)(l:List Tx)(N P U:Int):Prop where
 clean:D.wr=[]
 tE:scanE D=0
 tL:fndL D=l
 tN:fndN D=N
 tP:fndP D=P
 tU:z2l D=U
 goods:∀t∈l,za9 t=true
 late:∀n:Nat,1≤n→n≤24→NoEnd N (zal D n)
theorem Tells.good{D:Dk}{l:List Tx}{N P U:Int}(h:Tells D l N P U):za0 D=true:=(zht h.tE).1
theorem Tells.range{D:Dk}{l:List Tx}{N P U:Int}(h:Tells D l N P U):(1≤N∧N≤2147483647)∧(0≤P∧P≤23)∧0≤U∧U≤24:=by
 obtain⟨_,B,C,A⟩:=zqc h.tE;obtain⟨u1,u2,_,_⟩:=zhx h.tE;rw[h.tN]at B;rw[h.tP]at C A;rw[h.tU]at u1;exact⟨B,⟨C,A⟩,by omega,by omega⟩
theorem Tells.congr{D X:Dk}{l:List Tx}{N P U:Int}(h:Tells D l N P U)(hg:za0 X=true)(hw:X.wr=[])(hr:∀n:Nat,n≤24→zal X n=zal D n):Tells X l N P U:=by
 obtain⟨I,A,E,C⟩:=zwr hg h.good hr
 have F:zan X=zan D:=by
  have J:=hr 0 (by omega);have B:zal X 0=zal D 0:=J;rw[zan,zan,B]
 refine⟨hw,I.trans h.tE,A.trans h.tL,E.trans h.tN,C.trans h.tP,?_,h.goods,fun n h1 h2=>by rw[hr n h2];exact h.late n h1 h2⟩;rw[z2l,C,F,A];exact h.tU
theorem Tells.still{D X:Dk}{l:List Tx}{N P U:Int}(h:Tells D l N P U)(hX:Crashed D X):Tells X l N P U∧∀n:Nat,n<37→zal X n=zal D n:=by
 have A:∀n:Nat,n<37→zal X n=zal D n:=fun n hn=>zf5 h.good h.clean hn _ (hX.at_ n hn);exact⟨h.congr hX.good hX.clean (fun n hn=>A n (by omega)),A⟩
theorem zu6{D:Dk}{l:List Tx}{N P U:Int}(h:Tells D l N P U){t:Tx}(hN:N<2147483646)(hq:t.seq=N)(hS:sealE P U t=0)(hgt:za9 (toldOf t)=true){k:Nat}(hk:k≤(commitS P U t).length){X:Dk}(hX:Crashed (runK D ((commitS P U t).take k)) X):
  (Tells X l N P U∧k<(commitS P U t).length)∨(Tells X (l++[toldOf t]) (N+1) (zcf P U t) (zca P U t)∧(commitS P U t).length≤k+1):=by
 have y:=h.tE;have A4:=h.good;obtain⟨_,⟨C0,C2⟩,p1,p2,_,B7⟩:=zht y;obtain⟨hU,B2,b,r⟩:=zhx y;rw[h.tU]at hU;rw[h.tP]at b;rw[h.tN]at r;obtain⟨_,Q,hP,B8,B1⟩:=zbs hS;obtain⟨r1,r2,r3⟩:=zzx A4 h.clean hS hk;generalize runK D ((commitS P U t).take k)=R at *;rw[hU]at B1;have gX:=hX.good;have J:=hX.at_
 have B5:∀i j:Nat,i<24→j≤(logB t).length→1+((zan D).pos+(i:Int))%24=1+(P+(j:Int))%24→i=(zbt D).2+j:=by
  intro i j A F Z;rw[b]at Z;omega
 have A6:∀j:Nat,j≤(logB t).length→1+((zan D).pos+(((zbt D).2+j:Nat):Int))%24=1+(P+(j:Int))%24:=by
  intro j F;rw[b];omega
 have h0:zal X 0=zal D 0:=r2 0 (by omega) (fun i _=>by show(0:Int)≠_;omega) _ (J 0 (by omega));have K:zan X=zan D:=by rw[zan,zan,h0]
 have C:scanE X=0:=by
  have e1:readE X 0=0:=zex gX (n:=0) (by omega);have e2:readE D 0=0:=zex A4 (n:=0) (by omega);rw[←y,scanE,scanE,K,h0,e1,e2]
 have lD:∀i:Nat,i<24→(logOf D (zan D).pos).getD i ByteArray.empty=zal D ((1+(((zan D).pos+(i:Int))%24).toNat:Nat):Int):=by
  intro i A;rw[zi0 _ _ _ A]
  congr 1;omega
 have lX:∀i:Nat,i<24→(logOf X (zan D).pos).getD i ByteArray.empty=zal X ((1+(((zan D).pos+(i:Int))%24).toNat:Nat):Int):=by
  intro i A;rw[zi0 _ _ _ A]
  congr 1;omega
 have same:∀i:Nat,i<24→(∀j:Nat,j≤(logB t).length→i≠(zbt D).2+j)→(logOf D (zan D).pos).getD i ByteArray.empty=(logOf X (zan D).pos).getD i ByteArray.empty:=by
  intro i A B6;rw[lD i A,lX i A];refine(r2 _ (by omega) (fun j F Z=>B6 j F (B5 i j A F (by omega))) _ (J _ (by omega))).symm
 have z:=ztc (log:=logOf D (zan D).pos) (log':=logOf X (zan D).pos) (by rw[za4,za4]) 24 0 (zan D).seq [] (by rw[za4];omega) (fun i A=>same i (by have:i<(zbt D).2:=A;omega) (fun j _ Z=>by have:i<(zbt D).2:=A;omega))
 have a:zbt X=scanP (logOf X (zan D).pos) (zbt D).2 N (zbt D).1:=by
  rw[zbt,K,z,r];simp only[List.length_nil];show scanP _ (zbt D).2 ((zan D).seq+((zbt D).1.length:Int) - _) (zbt D).1=_
  congr 1;omega
 have A5:l=(zbt D).1:=by rw[←h.tL,fndL,if_pos y]
 have A8:(zbt D).2+(zow (segsOf t)).length+1≤(logOf X (zan D).pos).length:=by rw[za4,zhv];omega
 have B0:∀x∈segsOf t,z4d N x:=by rw[←hq];exact ztd Q
 have A3:∀n:Nat,1≤n→n≤24→zal X n=zal D n∨(∃s∈logB t,zal X n=s)∨((commitS P U t).length≤k+1∧zal X n=zkv t):=by
  intro n S Y;by_cases F:∀i:Nat,i≤(logB t).length→(n:Int)≠1+(P+(i:Int))%24
  ·exact .inl (r2 n (by omega) F _ (J n (by omega)))
  ·obtain⟨i,A,B⟩:∃i:Nat,i≤(logB t).length∧(n:Int)=1+(P+(i:Int))%24:=by
    refine Classical.byContradiction fun hx=>F fun i A Z=>hx ⟨i,A,Z⟩
   rcases r3 with⟨I,a1,a2⟩|⟨I,a1,a2⟩
   ·by_cases hl:i<(logB t).length
    ·rcases a1 n i hl B _ (J n (by omega)) with e|e
     ·exact .inl e
     ·exact .inr (.inl ⟨_,List.getElem_mem hl,by rw[e,List.getD,List.getElem?_eq_getElem hl];rfl⟩)
    ·have:i=(logB t).length:=by omega
     subst this;exact .inl (a2 n B _ (J n (by omega)))
   ·by_cases hl:i<(logB t).length
    ·exact .inr (.inl ⟨_,List.getElem_mem hl,by rw[a1 n i hl B _ (J n (by omega)),List.getD,List.getElem?_eq_getElem hl];rfl⟩)
    ·have:i=(logB t).length:=by omega
     subst this;rcases a2 n B _ (J n (by omega)) with⟨_,e⟩|e
     ·exact .inl e
     ·exact .inr (.inr ⟨I,e⟩)
 have p:∀n:Nat,1≤n→n≤24→NoEnd (N+1) (zal X n):=by
  intro n S Y;rcases A3 n S Y with e|⟨s,K,e⟩|⟨_,e⟩
  ·rw[e];exact(h.late n S Y).mono (by omega)
  ·rw[e];exact zly Q _ s K
  ·rw[e,←hq];exact zwv Q
 have m:∀M,(∀n:Nat,1≤n→n≤24→NoEnd M (zal X n))→∀i,i<(logOf X (zan D).pos).length→NoEnd M ((logOf X (zan D).pos).getD i ByteArray.empty):=by
  intro M hM i A;rw[za4]at A;rw[lX i A];exact hM _ (by omega) (by omega)
 have d:(∀n:Nat,1≤n→n≤24→NoEnd N (zal X n))→Tells X l N P U:=by
  intro c
  have E:zbt X=zbt D:=by
   rw[a,scanP,dif_pos (by omega),zjy (m N c) (Int.le_refl _) 24 _ _ (by rw[za4];omega)]
  refine⟨hX.clean,C,by rw[fndL,if_pos C,E,←A5],by rw[fndN,if_pos C,K,E];exact r.symm,by rw[←h.tP,fndP,if_pos C,K,E,fndP,if_pos y],?_,h.goods,c⟩;rw[(zhx C).1,E];exact hU.symm
 have L:∀j:Nat,j≤(logB t).length→∃n:Nat,1≤n∧n<25∧(n:Int)=1+(P+(j:Int))%24∧(logOf X (zan D).pos).getD ((zbt D).2+j) ByteArray.empty=zal X n∧(logOf D (zan D).pos).getD ((zbt D).2+j) ByteArray.empty=zal D n:=by
  intro j F;refine⟨1+(((zan D).pos+(((zbt D).2+j:Nat):Int))%24).toNat,by omega,by omega,?_,lX _ (by omega),lD _ (by omega)⟩;rw[←A6 j F];omega
 by_cases hlast:(commitS P U t).length≤k+1∧∃n:Nat,1≤n∧n≤24∧(n:Int)=1+(P+((logB t).length:Int))%24∧zal X n=zkv t
 ·obtain⟨I,nl,A2,C1,B9,B3⟩:=hlast;refine .inr ⟨?_,I⟩;rcases r3 with⟨hk2,_,_⟩|⟨_,a1,a2⟩
  ·omega
  have A7:∀j:Nat,j<(logB t).length→(logOf X (zan D).pos).getD ((zbt D).2+j) ByteArray.empty=(logB t).getD j ByteArray.empty:=by
   intro j F;obtain⟨n,_,hn,B,eX,_⟩:=L j (by omega);rw[eX,a1 n j F B _ (J n (by omega))]
  obtain⟨n,_,hn,B,eX,eD⟩:=L _ (Nat.le_refl _);have B4:n=nl:=by omega
  subst B4;have A0:=z2j (N:=N) (cm:=⟨4,t.seq,0,[],[]⟩) (zlx Q) hq rfl (segsOf t) (logOf X (zan D).pos) (zbt D).2 (zc5 N) B0 A8 (by rw[zhv];exact A7) (by rw[zhv,eX,B3];rfl);rw[←hq,zzv Q,zhv,hq]at A0;have A1:zfg (logOf X (zan D).pos) (N+1) ((zbt D).2+(logB t).length+1) (zc5 (N+1))=none:=zjy (m _ p) (Int.le_refl _) 24 _ _ (by rw[za4];omega)
  have E:zbt X=((zbt D).1++[toldOf t],(zbt D).2+(logB t).length+1):=by
   rw[a,scanP,dif_pos (by omega),A0];simp only;rw[scanP,dif_pos (by omega),A1]
  have hn:=zd8 t (zaw Q).1 (zaw Q).2.2
  have hH:zcf P U t=(P+needN t.info.length t.rev.length)%24:=by
   have O:=hS;unfold sealE at O;split at O
   ·cases O
   ·rw[zcf,if_pos hS,takeH,if_pos O]
  have A9:zca P U t=U+needN t.info.length t.rev.length:=by
   have O:=hS;unfold sealE at O;split at O
   ·cases O
   ·rw[zca,if_pos hS,takeU,if_pos O]
  refine⟨hX.clean,C,by rw[fndL,if_pos C,E,A5],?_,?_,?_,?_,p⟩
  ·rw[fndN,if_pos C,K,E];simp only[List.length_append,List.length_cons,List.length_nil];omega
  ·rw[fndP,if_pos C,K,E,hH,←hn,b];simp only;omega
  ·rw[(zhx C).1,E,A9,←hn,hU];simp only;omega
  ·intro u hu;rcases List.mem_append.1 hu with h6|h6
   ·exact h.goods u h6
   ·rw[List.mem_singleton.1 h6];exact hgt
 ·have c:∀n:Nat,1≤n→n≤24→NoEnd N (zal X n):=by
   intro n S Y;rcases A3 n S Y with e|⟨s,K,e⟩|⟨I,e⟩
   ·rw[e];exact h.late n S Y
   ·rw[e];exact zly Q _ s K
   ·by_cases B:(n:Int)=1+(P+((logB t).length:Int))%24
    ·exact absurd ⟨I,n,S,Y,B,e⟩ hlast
    ·
     by_cases F:∀i:Nat,i≤(logB t).length→(n:Int)≠1+(P+(i:Int))%24
     ·rw[r2 n (by omega) F _ (J n (by omega))];exact h.late n S Y
     ·obtain⟨i,A,q⟩:∃i:Nat,i≤(logB t).length∧(n:Int)=1+(P+(i:Int))%24:=by
       refine Classical.byContradiction fun hx=>F fun i A Z=>hx ⟨i,A,Z⟩
      have w:i<(logB t).length:=by
       rcases Nat.lt_or_ge i (logB t).length with h7|h7
       ·exact h7
       ·have:i=(logB t).length:=by omega
        subst this;exact absurd q B
      rcases r3 with⟨hk2,_,_⟩|⟨_,a1,_⟩
      ·omega
      ·rw[a1 n i w q _ (J n (by omega)),List.getD,List.getElem?_eq_getElem w];exact zly Q _ _ (List.getElem_mem w)
  refine .inl ⟨d c,?_⟩;rcases Nat.lt_or_ge k (commitS P U t).length with h7|h7
  ·exact h7
  ·exfalso
   rcases r3 with⟨hk2,_,_⟩|⟨I,a1,a2⟩
   ·omega
   ·obtain⟨n,A2,hn,B,eX,eD⟩:=L _ (Nat.le_refl _);rcases a2 n B _ (J n (by omega)) with⟨h8,_⟩|h8
    ·omega
    ·exact hlast ⟨I,n,A2,by omega,B,h8⟩
theorem zzy{f:Int→Option ByteArray}{n b:Nat}{s:ByteArray}(hb:b<n)(h:f b=some s):((b:Int),s)∈asN f n:=by
 induction n with
 |zero=>omega
 |succ n ih=>
  rw[zep];by_cases e:b=n
  ·subst e;refine List.mem_append.2 (.inr ?_);simp[zpm,h]
  ·exact List.mem_append.2 (.inl (ih (by omega)))
theorem zqw{X:Dk}{P N:Int}(hg:za0 X=true)(hw:X.wr=[])(h0:zal X 0=encT (zbq P N))(hm:goodM (zbq P N)=0)(hl:∀n:Nat,1≤n→n≤24→NoEnd N (zal X n)):Tells X [] N P 0:=by
 have C:zan X=zbq P N:=by rw[zan,h0,zjw hm]
 obtain⟨_,p1,p2⟩:=zs9 hm
 have A:scanE X=0:=by
  have D:readE X 0=0:=zex hg (n:=0) (by omega);rw[scanE,D,C,h0,zjw hm,if_neg (by simp),if_neg (by simp[zbq])]
 have B:zbt X=([],0):=by
  rw[zbt,C];show scanP (logOf X P) 0 N []=_;rw[scanP];split
  ·have E:zfg (logOf X P) N 0 (zc5 N)=none:=by
    refine zjy (N:=N) (fun i hi=>?_) (Int.le_refl _) 24 0 _ (by rw[za4];omega);rw[za4]at hi;rw[zi0 X P i hi];have e:1+(P+(i:Int))%24=((1+((P+(i:Int))%24).toNat:Nat):Int):=by omega
    rw[e];exact hl _ (by omega) (by omega)
   rw[E]
  ·rfl
 refine⟨hw,A,?_,?_,?_,?_,(fun t ht=>by cases ht),hl⟩
 ·rw[fndL,if_pos A,B]
 ·rw[fndN,if_pos A,B,C];simp[zbq]
 ·rw[fndP,if_pos A,B,C];simp[zbq];omega
 ·rw[(zhx A).1,B];rfl
theorem zea{l:List Tx}{P N:Int}(h:checkE (newestL l) P N=0):checkS (newestL l) P N=putR (newestL l) (encT (zbq P N))∧goodM (zbq P N)=0:=by
 refine⟨by rw[checkS,if_pos h];rfl,?_⟩;by_cases hx:goodM (zbq P N)=0
 ·exact hx
 ·rw[checkE,if_pos hx]at h;exact absurd h hx
theorem Tells.check{D:Dk}{l:List Tx}{N P U:Int}(h:Tells D l N P U):checkE (newestL l) P N=0:=by
 have:=z2f h.tE (by rw[h.tL];exact h.goods)
 rwa [h.tL,h.tN,h.tP]at this
theorem zzz{l:List Tx}{x:Int×ByteArray}(hx:x∈newestL l):0≤x.1∧x.1≤11∧newestF l x.1=some x.2:=by
 obtain⟨a,b,c⟩:=zom hx;exact⟨a,by omega,c⟩
theorem zqx{D:Dk}{l:List Tx}{N P U:Int}(h:Tells D l N P U){k:Nat}{X:Dk}(hX:Crashed (runK D ((checkS (newestL l) P N).take k)) X):
  ((Tells X l N P U∧k<(checkS (newestL l) P N).length)∨(Tells X [] N P 0∧∀x∈newestL l,zal X (25+x.1)=x.2))∧
  ∀b:Nat,b<12→zal X ((25+b:Nat):Int)=zal D ((25+b:Nat):Int)∨newestF l b=some (zal X ((25+b:Nat):Int)):=by
 obtain⟨K,M⟩:=zea h.check;have I:zba (encT (zbq P N))=true:=by have:=zer M;simp[zba];omega
 have C:=zeg h.goods;have A:=h.good;rw[K]at hX⊢;generalize hSe:encT (zbq P N)=S at *;obtain⟨r1,O,R⟩:=zta C I A h.clean (fun n hn=>zf5 A h.clean (by omega)) k;have A0:=zeh C;have A1:(putR (newestL l) S).length≤15:=by simp[putR];omega
 refine⟨?_,fun b hb=>?_⟩
 ·have E:∀n:Nat,1≤n→n≤24→zal X n=zal D n:=fun n h1 h2=>O n h1 (by omega) _ (hX.at_ n (by omega));by_cases hc:k<(putR (newestL l) S).length∧zal X 0=zal D 0
  ·refine .inl ⟨h.congr hX.good hX.clean (fun n hn=>?_),hc.1⟩;by_cases e:n=0
   ·subst e;exact hc.2
   ·exact E n (by omega) hn
  ·have L:zal X 0∈ways _ 0:=hX.at_ 0 (by omega);refine .inr ?_;rcases R with⟨h1,h2⟩|⟨h1,h2⟩
   ·exact absurd ⟨h1,h2 _ L⟩ hc
   ·rcases h1 _ L with h3|h3
    ·exact absurd h3 hc
    ·refine⟨zqw hX.good hX.clean (h3.trans hSe.symm) M (fun n h4 h5=>by rw[E n h4 h5];exact h.late n h4 h5),fun x B=>?_⟩;have hb:=C.2.1 x B;have:=h2 x B _ (hX.at_ (25+x.1).toNat (by omega))
     rwa [show(((25+x.1).toNat:Nat):Int)=25+x.1 from by omega]at this
 ·have Q:=zlv (n:=25+b) (by omega) (S:=fun s=>s=zal D ((25+b:Nat):Int)∨newestF l b=some s) ((putR (newestL l) S).take k) D (fun s hs=>zjx C I s (List.mem_of_mem_take hs)) A (by rw[h.clean,List.length_take];simp;omega) (fun s hs=>.inl (zf5 A h.clean (by omega) s hs)) (fun s hs h2 he=>?_)
  ·exact Q _ (hX.at_ _ (by omega))
  ·right;rcases List.mem_append.1 (List.mem_of_mem_take hs) with h3|h3
   ·rw[homeS]at h3;rcases List.mem_append.1 h3 with h4|h4
    ·obtain⟨x,B,rfl⟩:=List.mem_map.1 h4;have F:25+x.1=((25+b:Nat):Int):=he;have J:=zzz B;have:x.1=(b:Int):=by omega
     rw[←this];exact J.2.2
    ·split at h4
     ·cases h4
     ·rw[List.mem_singleton.1 h4]at h2;exact absurd rfl h2
   ·rcases List.mem_cons.1 h3 with rfl|h4
    ·have F:(0:Int)=((25+b:Nat):Int):=he;omega
    ·rw[List.mem_singleton.1 h4]at h2;exact absurd rfl h2
theorem znm{D:Dk}{l:List Tx}{N P U:Int}(h:Tells D l N P U):Tells (runK D (checkS (newestL l) P N)) [] N P 0∧∀b:Nat,b<12→zal (runK D (checkS (newestL l) P N)) ((25+b:Nat):Int)=(newestF l b).getD (zal D ((25+b:Nat):Int)):=by
 obtain⟨E,L⟩:=zea h.check;have C:zba (encT (zbq P N))=true:=by have:=zer L;simp[zba];omega
 have B:=zeg h.goods;have A:=h.good;have A0:=zeh B;have K:=(zcn (putR (newestL l) (encT (zbq P N))) D (zjx B C) A (by rw[h.clean];simp[putR];omega)).1
 have I:(runK D (putR (newestL l) (encT (zbq P N)))).wr=[]:=by
  have e:putR (newestL l) (encT (zbq P N))=(homeS (newestL l)++[zbm 0 (encT (zbq P N))])++[zb1]:=by simp[putR]
  rw[e,zcb];refine zou (zcn _ D (fun s hs=>zjx B C s ?_) A (by rw[h.clean];simp;omega)).1;rw[e];exact List.mem_append.2 (.inl hs)
 have F:=zqx h (k:=(checkS (newestL l) P N).length) (X:=runK D (checkS (newestL l) P N)) (by
  rw[List.take_length,E]
  exact zkg K I)
 rcases F.1 with⟨_,h2⟩|⟨h1,h2⟩
 ·omega
 refine⟨h1,fun b hb=>?_⟩
 cases hn:newestF l b with
 |some s=>
  have J:((b:Int),s)∈newestL l:=by
   rw[newestL];exact zzy (by omega) hn
  have:=h2 _ J
  simpa using this
 |none=>
  rcases F.2 b hb with e|e
  ·exact e
  ·rw[hn]at e;cases e
theorem zq0{t:Tx}(h:za9 t=true):za9 (toldOf t)=true:=by
 have A:=(za3 t).1 h;have B:=ze8 h;exact zoz (t:=toldOf t) A.1 A.2.1.1 rfl A.2.2.1.1 rfl A.2.2.1.2.2 ⟨fun x hx=>⟨(fun h2=>by cases h2),(B.1 x hx).2⟩,(fun x hx=>by cases hx)⟩ ⟨rfl,rfl,rfl⟩
theorem z2m{l:List (Int×ByteArray)}(h:zbl (blksOf l)=true){x:Int×ByteArray}(hx:x∈l):zai x.1 l=some x.2:=by
 have u:Up (·.1) l:=(zfr _ _).1 ((za5 _).1 h).2;have B:=zgd u x.1;have A:x∈l.filter (fun y=>decide (y.1=x.1)):=List.mem_filter.2 ⟨hx,by simp⟩;rw[B]at A
 cases ht:zai x.1 l with
 |none=>rw[ht]at A;simp at A
 |some s=>
  rw[ht]at A;simp at A;rw[A]
theorem z4e{l:List (Int×ByteArray)}{b:Int}{s:ByteArray}(h:zai b l=some s):(b,s)∈l:=by
 induction l with
 |nil=>cases h
 |cons x r ih=>
  rw[zai]at h;split at h
  ·rename_i e;cases h;rw[←e];simp
  ·exact List.mem_cons_of_mem _ (ih h)
theorem zw1{t:Tx}(hg:za9 t=true):zov t.data:=by
 have A:=(za3 t).1 hg;exact⟨zgi A.2.2.1.2.1,zhw hg,(zaw hg).2.1⟩
section
variable {D:Dk} {l:List Tx} {N P U:Int} {t:Tx}
theorem zti(hS:sealE P U t=0):∀s∈commitS P U t,s.1≠2→∀b:Nat,b<12→s.2.1=((25+b:Nat):Int)→zai b t.data=some s.2.2:=by
 obtain⟨e,I,hP,_,hU⟩:=zbs hS;have J:=(za3 t).1 I;intro s E A b hb D;rw[e]at E;rcases List.mem_append.1 E with h1|h1
 ·rcases List.mem_append.1 h1 with h1|h1
  ·rcases List.mem_append.1 h1 with h1|h1
   ·rw[homeS]at h1;rcases List.mem_append.1 h1 with h3|h3
    ·obtain⟨x,F,rfl⟩:=List.mem_map.1 h3;have B:25+x.1=((25+b:Nat):Int):=D;have:x.1=(b:Int):=by omega
     rw[←this];exact z2m J.2.2.1.2.1 F
    ·split at h3
     ·cases h3
     ·rw[List.mem_singleton.1 h3]at A;exact absurd rfl A
   ·obtain⟨i,A0,C,rfl⟩:=zjd h1;rw[zbp]at C;have B:1+(zbw P ((logB t).length+1)).getD i 0=((25+b:Nat):Int):=D;rw[zdi _ _ _ C]at B;omega
  ·rw[sealF]at h1;split at h1
   ·rw[List.mem_singleton.1 h1]at A;exact absurd rfl A
   ·cases h1
 ·rcases List.mem_cons.1 h1 with rfl|h3
  ·have B:1+(P+((logB t).length:Int))%24=((25+b:Nat):Int):=D;omega
  ·rw[List.mem_singleton.1 h3]at A;exact absurd rfl A
theorem znr(h:Tells D l N P U)(hS:sealE P U t=0){k:Nat}{X:Dk}(hX:Crashed (runK D ((commitS P U t).take k)) X):
  (∀b:Nat,b<12→zal X ((25+b:Nat):Int)=zal D ((25+b:Nat):Int)∨zai b t.data=some (zal X ((25+b:Nat):Int)))∧
  ((commitS P U t).length≤k+1→∀b:Nat,b<12→zal X ((25+b:Nat):Int)=(zai b t.data).getD (zal D ((25+b:Nat):Int))):=by
 have E:=h.good;obtain⟨L,O⟩:=zey hS;obtain⟨e,d,hP,_,hU⟩:=zbs hS;have hi:=(za3 t).1 d
 have F:∀b:Nat,b<12→zal X ((25+b:Nat):Int)=zal D ((25+b:Nat):Int)∨zai b t.data=some (zal X ((25+b:Nat):Int)):=by
  intro b hb;have m:=zlv (n:=25+b) (by omega) (S:=fun s=>s=zal D ((25+b:Nat):Int)∨zai b t.data=some s) ((commitS P U t).take k) D (fun s hs=>L s (List.mem_of_mem_take hs)) E (by rw[h.clean,List.length_take];simp;omega) (fun s hs=>.inl (zf5 E h.clean (by omega) s hs)) (fun s hs h2 B=>.inr (zti hS s (List.mem_of_mem_take hs) h2 b hb B));exact m _ (hX.at_ _ (by omega))
 refine⟨F,fun hk b hb=>?_⟩
 cases ht:zai b t.data with
 |none=>
  rcases F b hb with e1|e1
  ·exact e1
  ·rw[ht]at e1;cases e1
 |some s=>
  have Z:=zw1 d;obtain⟨p,a2,a3,q⟩:=zhc Z E h.clean (fun n hn=>zf5 E h.clean (by omega));have Q:=z4e ht;have R:=q _ Q;have M:(25+(b:Int)).toNat=25+b:=by omega
  rw[M]at R;have A1:=zeh Z;obtain⟨rest,A⟩:∃rest,commitS P U t=homeS t.data++rest:=⟨_,by rw[e,sealA,List.append_assoc,List.append_assoc]⟩
  have A4:2≤rest.length:=by
   have:(commitS P U t).length=(homeS t.data).length+rest.length:=by rw[A,List.length_append]
   rw[e]at this;simp[sealA]at this;omega
  have Y:(commitS P U t).take k=homeS t.data++rest.take (k - (homeS t.data).length):=by
   rw[A,List.take_append,List.take_of_length_le];rw[A,List.length_append]at hk;omega
  have A5:rest.length≤50:=by rw[A,List.length_append]at O;omega
  rw[Y,zcb]at hX
  have c:∀C∈rest.take (k - (homeS t.data).length),C.1≠2→C.2.1≠((25+b:Nat):Int):=by
   intro C J _ B
   have A0:C∈sealA P t++sealF t++[zhd P t,zb1]:=by
    rw[←e,A];exact List.mem_append.2 (.inr (List.mem_of_mem_take J))
   have r:C∈putS (zbw P ((logB t).length+1)) (logB t)++(sealF t++[zhd P t,zb1]):=by
    have j:homeS t.data++rest=homeS t.data++(putS (zbw P ((logB t).length+1)) (logB t)++(sealF t++[zhd P t,zb1])):=by
     rw[←A,e,sealA,List.append_assoc,List.append_assoc]
    rw[←List.append_cancel_left j];exact List.mem_of_mem_take J
   rcases List.mem_append.1 r with h1|h1
   ·obtain⟨i,A3,K,rfl⟩:=zjd h1;rw[zbp]at K;have I:1+(zbw P ((logB t).length+1)).getD i 0=((25+b:Nat):Int):=B;rw[zdi _ _ _ K]at I;omega
   ·rcases List.mem_append.1 h1 with h3|h3
    ·rw[sealF]at h3;split at h3
     ·rename_i A2;rw[List.mem_singleton.1 h3]at B;have I:(0:Int)=((25+b:Nat):Int):=B;omega
     ·cases h3
    ·rcases List.mem_cons.1 h3 with rfl|h5
     ·have I:1+(P+((logB t).length:Int))%24=((25+b:Nat):Int):=B;omega
     ·rw[List.mem_singleton.1 h5]at B;have I:(0:Int)=((25+b:Nat):Int):=B;omega
  have a:=zhu (n:=25+b) (by omega) (rest.take (k - (homeS t.data).length)) (runK D (homeS t.data)) (fun C J=>L C (by rw[A];exact List.mem_append.2 (.inr (List.mem_of_mem_take J)))) p (by rw[List.length_take];omega) R c;exact a _ (hX.at_ _ (by omega))
theorem zz2(h:Tells D l N P U)(hN:N<2147483646)(hq:t.seq=N)(hS:sealE P U t=0):
  Tells (runK D (commitS P U t)) (l++[toldOf t]) (N+1) (zcf P U t) (zca P U t)∧∀b:Nat,b<12→zal (runK D (commitS P U t)) ((25+b:Nat):Int)=(zai b t.data).getD (zal D ((25+b:Nat):Int)):=by
 obtain⟨B,A0⟩:=zey hS;obtain⟨e,J,_,_,_⟩:=zbs hS;have A:=h.good;have E:=(zcn (commitS P U t) D B A (by rw[h.clean];simp;omega)).1
 have I:(runK D (commitS P U t)).wr=[]:=by
  have C:commitS P U t=(sealA P t++sealF t++[zhd P t])++[zb1]:=by rw[e];simp
  rw[C,zcb]
  have hl:(sealA P t++sealF t++[zhd P t]).length≤50:=by
   have:(commitS P U t).length=(sealA P t++sealF t++[zhd P t]).length+1:=by rw[C,List.length_append];rfl
   omega
  exact zou (zcn _ D (fun s hs=>B s (by rw[C];exact List.mem_append.2 (.inl hs))) A (by rw[h.clean];simp only[List.length_nil];omega)).1
 have F:Crashed (runK D ((commitS P U t).take (commitS P U t).length)) (runK D (commitS P U t)):=by
  rw[List.take_length];exact zkg E I
 refine⟨?_,(znr h hS F).2 (by omega)⟩;rcases zu6 h hN hq hS (zq0 J) (Nat.le_refl _) F with⟨_,h2⟩|⟨h1,_⟩
 ·omega
 ·exact h1
end
theorem zkj(l:List Tx)(b:Int):newestF (l.map toldOf) b=newestF l b:=by
 unfold newestF;rw[List.foldl_map];rfl
theorem zb9(l:List Tx):newestL (l.map toldOf)=newestL l:=by
 rw[newestL,newestL];exact zyf fun j _=>zkj l j
def zq3 (t:Tx):Bool:=zfm t|| !zcg t
structure Pow (j:Jn):Prop where
 up:j.down=false
 good:za9 j.now=true
 seq:j.now.seq≤j.acts+1
 fL:j.fL=[]
 fN:j.fN=0
 room:zq3 j.now=true→zd4 (zb0 j.now)≤24 - j.ru
structure Dn (j:Jn)(N:Int):Prop where
 off:j.down=true
 now:j.now=zc5 0
 sealed:j.sealed=zc5 0
 done:j.done=[]
 ru:j.ru=0
 rh:j.rh=0
 last0:0≤j.last
 lo:j.last+1≤N
 hi:N≤j.last+2
 seq:N≤j.acts+1
inductive Md (j:Jn)(D:Dk):Prop
 |idle (p:Pow j) (hs:j.steps=[]) (hz:j.sealed=zc5 0) (hD:j.disk=D) (ht:Tells D (j.done.map toldOf) (j.last+1) j.rh j.ru) (hq:j.now.seq=j.last+1)
 |commit (P U:Int) (k:Nat) (p:Pow j) (hw:j.work=6) (hk:k<(commitS P U j.sealed).length) (hs:j.steps=(commitS P U j.sealed).drop k) (hD:j.disk=runK D ((commitS P U j.sealed).take k)) (ht:Tells D (j.done.map toldOf) (j.last+1) P U)
   (he:sealE P U j.sealed=0) (hse:j.sealed.seq=j.last+1) (hrh:j.rh=zcf P U j.sealed) (hru:j.ru=zca P U j.sealed) (hq:j.now.seq=j.last+2) (hN:j.last+1<2147483646)
 |check (k:Nat) (p:Pow j) (hw:j.work=7) (hz:j.sealed=zc5 0) (hk:k<(checkS (newestL j.done) j.rh (j.last+1)).length) (hs:j.steps=(checkS (newestL j.done) j.rh (j.last+1)).drop k) (hD:j.disk=runK D ((checkS (newestL j.done) j.rh (j.last+1)).take k)) (ht:Tells D (j.done.map toldOf) (j.last+1) j.rh j.ru) (hq:j.now.seq=j.last+1)
 |off (l:List Tx) (N P U:Int) (p:Dn j N) (hs:j.steps=[]) (hf:j.fL=[]∧j.fN=0) (hD:j.disk=D) (ht:Tells D l N P U)
 |back (U:Int) (k:Nat) (p:Dn j j.fN) (hw:j.work=11) (hk:k<(checkS (newestL j.fL) j.fP j.fN).length) (hs:j.steps=(checkS (newestL j.fL) j.fP j.fN).drop k) (hD:j.disk=runK D ((checkS (newestL j.fL) j.fP j.fN).take k)) (ht:Tells D j.fL j.fN j.fP U)
def zo2 (D:Dk)(b:Nat):ByteArray:=(newestF (fndL D) b).getD (zal D ((25+b:Nat):Int))
inductive Left (j:Jn)(D X:Dk):Prop
 |all (hN:fndN X=fndN D) (hL:fndL X=fndL D∨fndL X=[]) (he:∀b:Nat,b<12→zo2 X b=zo2 D b) (hc:j.down=false→j.sealed=zc5 0)
 |without (hu:j.down=false) (hse:j.sealed.seq=j.last+1) (hN:fndN X=fndN D) (hL:fndL X=fndL D) (hh:∀b:Nat,b<12→zal X ((25+b:Nat):Int)=zal D ((25+b:Nat):Int)∨zai b j.sealed.data=some (zal X ((25+b:Nat):Int)))
 |whole (hu:j.down=false) (hse:j.sealed.seq=j.last+1) (hN:fndN X=fndN D+1) (hL:fndL X=fndL D++[toldOf j.sealed]) (hh:∀b:Nat,b<12→zal X ((25+b:Nat):Int)=(zai b j.sealed.data).getD (zal D ((25+b:Nat):Int)))
inductive Trans (j:Jn)(D:Dk)(a:Ac):Jn→Rp→Dk→Prop
 |plain {j':Jn} {r:Rp} (m:Move j a j' r) (hp:r.code=0→a.kind≠10∧(a.kind=8→∃s q,j.steps=s::q∧q≠[]∧r=zaq 0∧j'={j with disk:=zbc j.disk s,steps:=q})):Trans j D a j' r D
 |through (Y:Dk) (hk:a.kind=8) (hu:j.down=false) (hse:j.sealed.seq=j.last+1) (hg:za9 j.sealed=true) (hN:fndN Y=fndN D+1) (hL:fndL Y=fndL D++[toldOf j.sealed]) (hh:∀b:Nat,b<12→zal Y ((25+b:Nat):Int)=(zai b j.sealed.data).getD (zal D ((25+b:Nat):Int))):
   Trans j D a {j with disk:=Y,steps:=[],sealed:=zc5 0,done:=j.done++[j.sealed],last:=j.sealed.seq} ⟨0,j.sealed.seq,⟨#[]⟩⟩ Y
 |home (Y:Dk) (hk:a.kind=8) (hu:j.down=false) (hz:j.sealed=zc5 0) (hN:fndN Y=fndN D) (hL:fndL Y=[]) (hh:∀b:Nat,b<12→zal Y ((25+b:Nat):Int)=zo2 D b):
   Trans j D a {j with disk:=Y,steps:=[],done:=[],ru:=0} (zaq 0) Y
 |on (Y:Dk) (hk:a.kind=8) (hd:j.down=true) (hfN:j.fN=fndN D) (hfL:j.fL=fndL D) (hN:fndN Y=fndN D) (hL:fndL Y=[]) (hh:∀b:Nat,b<12→zal Y ((25+b:Nat):Int)=zo2 D b):
   Trans j D a (zja {j with disk:=Y,steps:=[]}) (zaq 0) Y
 |crash (hk:a.kind=10) (hn:0≤a.n) (X:Dk) (hX:X=crashK j.disk a.n) (left:Left j D X):
   Trans j D a ⟨j.acts,X,0,0,j.last,true,fun _=>0,fun _=>0,zc5 0,zc5 0,[],[],0,0,0,[]⟩ (zaq 0) X
section
variable {j:Jn} {D:Dk}
theorem z4f{d:Dk}{s:St}(hs:zdc s)(hg:za0 d=true)(hl:d.wr.length<200):doneE d s=0:=by
 rw[doneE];split
 ·rw[zh7,if_pos hg]
 ·rename_i C;obtain⟨B,A⟩:=hs.resolve_left C;exact zed hg B A hl
theorem Md.disk(h:Md j D):za0 j.disk=true:=by
 cases h with
 |idle p hs hz hD ht hq=>rw[hD];exact ht.good
 |commit P U k p hw hk hs hD ht he hse hrh hru hq hN=>
  rw[hD];obtain⟨I,A0⟩:=zey he;exact(zcn _ D (fun s hs=>I s (List.mem_of_mem_take hs)) ht.good (by rw[ht.clean,List.length_take];simp;omega)).1
 |check k p hw hz hk hs hD ht hq=>
  rw[hD];have J:=ht.check;rw[zb9]at J;obtain⟨A,E⟩:=zea J;have C:zba (encT (zbq j.rh (j.last+1)))=true:=by have:=zer E;simp[zba];omega
  have B:zov (newestL j.done):=by have:=zeg ht.goods;rwa [zb9]at this
  have F:=zeh B;rw[A];exact(zcn _ D (fun s hs=>zjx B C s (List.mem_of_mem_take hs)) ht.good (by rw[ht.clean,List.length_take];simp[putR];omega)).1
 |off l N P U p hs hf hD ht=>rw[hD];exact ht.good
 |back U k p hw hk hs hD ht=>
  rw[hD];obtain⟨A,E⟩:=zea ht.check;have C:zba (encT (zbq j.fP j.fN))=true:=by have:=zer E;simp[zba];omega
  have B:=zeg ht.goods;have F:=zeh B;rw[A];exact(zcn _ D (fun s hs=>zjx B C s (List.mem_of_mem_take hs)) ht.good (by rw[ht.clean,List.length_take];simp[putR];omega)).1
theorem Md.last0(h:Md j D):0≤j.last:=by
 cases h with
 |idle p hs hz hD ht hq=>have:=ht.range.1.1;omega
 |commit P U k p hw hk hs hD ht he hse hrh hru hq hN=>have:=ht.range.1.1;omega
 |check k p hw hz hk hs hD ht hq=>have:=ht.range.1.1;omega
 |off l N P U p hs hf hD ht=>exact p.last0
 |back U k p hw hk hs hD ht=>exact p.last0
theorem Md.bump(h:Md j D){x:Int}(hx:j.acts≤x):Md {j with acts:=x} D:=by
 have A:Pow j→Pow {j with acts:=x}:=fun p=>⟨p.up,p.good,by have:=p.seq;show j.now.seq≤x+1;omega,p.fL,p.fN,p.room⟩
 have B:∀N,Dn j N→Dn {j with acts:=x} N:=fun N p=>⟨p.off,p.now,p.sealed,p.done,p.ru,p.rh,p.last0,p.lo,p.hi,by have:=p.seq;show N≤x+1;omega⟩
 cases h with
 |idle p hs hz hD ht hq=>exact .idle (A p) hs hz hD ht hq
 |commit P U k p hw hk hs hD ht he hse hrh hru hq hN=>exact .commit P U k (A p) hw hk hs hD ht he hse hrh hru hq hN
 |check k p hw hz hk hs hD ht hq=>exact .check k (A p) hw hz hk hs hD ht hq
 |off l N P U p hs hf hD ht=>exact .off l N P U (B _ p) hs hf hD ht
 |back U k p hw hk hs hD ht=>exact .back U k (B _ p) hw hk hs hD ht
theorem Md.now(h:Md j D)(hu:j.down=false){t:Tx}(hq:t.seq=j.now.seq)(hg:za9 t=true)(hr:zq3 t=true→zd4 (zb0 t)≤24 - j.ru)(f g:Nat→Int):Md {j with role:=f,freed:=g,now:=t} D:=by
 have A:Pow j→Pow {j with role:=f,freed:=g,now:=t}:=fun p=>⟨p.up,hg,by have:=p.seq;show t.seq≤j.acts+1;omega,p.fL,p.fN,hr⟩
 cases h with
 |idle p hs hz hD ht hq2=>exact .idle (A p) hs hz hD ht (hq.trans hq2)
 |commit P U k p hw hk hs hD ht he hse hrh hru hq2 hN=>exact .commit P U k (A p) hw hk hs hD ht he hse hrh hru (hq.trans hq2) hN
 |check k p hw hz hk hs hD ht hq2=>exact .check k (A p) hw hz hk hs hD ht (hq.trans hq2)
 |off l N P U p hs hf hD ht=>rw[p.off]at hu;cases hu
 |back U k p hw hk hs hD ht=>rw[p.off]at hu;cases hu
theorem Md.pow(h:Md j D)(hu:j.down=false):Pow j:=by
 cases h with
 |idle p hs hz hD ht hq2=>exact p
 |commit P U k p hw hk hs hD ht he hse hrh hru hq2 hN=>exact p
 |check k p hw hz hk hs hD ht hq2=>exact p
 |off l N P U p hs hf hD ht=>rw[p.off]at hu;cases hu
 |back U k p hw hk hs hD ht=>rw[p.off]at hu;cases hu
theorem zez{l:List St}{k:Nat}{s:St}{r:List St}(h:s::r=l.drop k):l[k]?=some s∧r=l.drop (k+1)∧k<l.length:=by
 have A:k<l.length:=by
  rcases Nat.lt_or_ge k l.length with h1|h1
  ·exact h1
  ·rw[List.drop_of_length_le h1]at h;cases h
 rw[List.drop_eq_getElem_cons A]at h
 injection h with h1 h2
 exact⟨by rw[h1];exact List.getElem?_eq_getElem A,h2,A⟩
theorem Md.step(h:Md j D){s:St}{r:List St}(hs:j.steps=s::r)(hr:r≠[]):Md {j with disk:=zbc j.disk s,steps:=r} D:=by
 have C:Pow j→Pow {j with disk:=zbc j.disk s,steps:=r}:=fun p=>⟨p.up,p.good,p.seq,p.fL,p.fN,p.room⟩
 have more:∀(S:List St) (k:Nat),s::r=S.drop k→k+1<S.length:=by
  intro S k e;obtain⟨_,A,_⟩:=zez e;rcases Nat.lt_or_ge (k+1) S.length with h1|h1
  ·exact h1
  ·rw[List.drop_of_length_le h1]at A;exact absurd A hr
 cases h with
 |idle p hs2 hz hD ht hq=>rw[hs2]at hs;cases hs
 |commit P U k p hw hk hs2 hD ht he hse hrh hru hq hN=>
  rw[hs]at hs2;obtain⟨B,A,_⟩:=zez hs2;exact .commit P U (k+1) (C p) hw (more _ _ hs2) A (by show zbc j.disk s=_;rw[zi2 B,hD]) ht he hse hrh hru hq hN
 |check k p hw hz hk hs2 hD ht hq=>
  rw[hs]at hs2;obtain⟨B,A,_⟩:=zez hs2;exact .check (k+1) (C p) hw hz (more _ _ hs2) A (by show zbc j.disk s=_;rw[zi2 B,hD]) ht hq
 |off l N P U p hs2 hf hD ht=>rw[hs2]at hs;cases hs
 |back U k p hw hk hs2 hD ht=>
  rw[hs]at hs2;obtain⟨B,A,_⟩:=zez hs2;exact .back U (k+1) ⟨p.off,p.now,p.sealed,p.done,p.ru,p.rh,p.last0,p.lo,p.hi,p.seq⟩ hw (more _ _ hs2) A (by show zbc j.disk s=_;rw[zi2 B,hD]) ht
theorem Md.crash(h:Md j D){q:Int}(hq0:0≤q):∃l N P U,Tells (crashK j.disk q) l N P U∧j.last+1≤N∧N≤j.last+2∧N≤j.acts+1∧Left j D (crashK j.disk q):=by
 obtain⟨_,C⟩:=zww h.disk hq0;generalize crashK j.disk q=X at *
 have E:∀{l:List Tx} {N P U:Int} {D X:Dk},Tells D l N P U→Tells X l N P U→(∀n:Nat,n<37→zal X n=zal D n)→∀b:Nat,b<12→zo2 X b=zo2 D b:=by
  intro l N P U D X A B I b hb;rw[zo2,zo2,A.tL,B.tL,I (25+b) (by omega)]
 have F:∀{l:List Tx} {N P U:Int} {k:Nat} {D X:Dk},Tells D l N P U→Crashed (runK D ((checkS (newestL l) P N).take k)) X→∃J K,Tells X J N P K∧(fndL X=fndL D∨fndL X=[])∧∀b:Nat,b<12→zo2 X b=zo2 D b:=by
  intro l N P U k D X A B;obtain⟨c1,c2⟩:=zqx A B;rcases c1 with⟨c1,_⟩|⟨c1,c3⟩
  ·refine⟨l,U,c1,.inl (c1.tL.trans A.tL.symm),fun b hb=>?_⟩;rw[zo2,zo2,c1.tL,A.tL];rcases c2 b hb with e|e
   ·rw[e]
   ·rw[e];rfl
  ·refine⟨[],0,c1,.inr c1.tL,fun b hb=>?_⟩;rw[zo2,zo2,c1.tL,A.tL];show zal X ((25+b:Nat):Int)=_
   cases hn:newestF l b with
   |some s=>
    have:=c3 _ (zzy (n:=12) (by omega) hn)
    simpa using this
   |none=>
    rcases c2 b hb with e|e
    ·exact e
    ·rw[hn]at e;cases e
 cases h with
 |idle p hs hz hD ht hq=>
  rw[hD]at C;obtain⟨A,B⟩:=ht.still C;have:=p.seq;exact⟨_,_,_,_,A,by omega,by omega,by omega,.all (A.tN.trans ht.tN.symm) (.inl (A.tL.trans ht.tL.symm)) (E ht A B) (fun _=>hz)⟩
 |commit P U k p hw hk hs hD ht he hse hrh hru hq hN=>
  rw[hD]at C;have M:=(zbs he).2.1;have L:=znr ht he C;have:=p.seq;rcases zu6 ht hN hse he (zq0 M) (Nat.le_of_lt hk) C with⟨A,_⟩|⟨A,B⟩
  ·exact⟨_,_,_,_,A,by omega,by omega,by omega,.without p.up hse (A.tN.trans ht.tN.symm) (A.tL.trans ht.tL.symm) L.1⟩
  ·exact⟨_,_,_,_,A,by omega,by omega,by omega,.whole p.up hse (by rw[A.tN,ht.tN]) (by rw[A.tL,ht.tL]) (L.2 B)⟩
 |check k p hw hz hk hs hD ht hq=>
  rw[hD,←zb9]at C;obtain⟨J,K,A,B,I⟩:=F ht C;have:=p.seq;exact⟨_,_,_,_,A,by omega,by omega,by omega,.all (A.tN.trans ht.tN.symm) B I (fun _=>hz)⟩
 |off l N P U p hs hf hD ht=>
  rw[hD]at C;obtain⟨A,B⟩:=ht.still C;exact⟨_,_,_,_,A,p.lo,p.hi,p.seq,.all (A.tN.trans ht.tN.symm) (.inl (A.tL.trans ht.tL.symm)) (E ht A B) (fun _=>p.sealed)⟩
 |back U k p hw hk hs hD ht=>
  rw[hD]at C;obtain⟨J,K,A,B,I⟩:=F ht C;exact⟨_,_,_,_,A,p.lo,p.hi,p.seq,.all (A.tN.trans ht.tN.symm) B I (fun _=>p.sealed)⟩
end
section
variable (t:Tx) (h b n free:Int) (s:ByteArray)
theorem z2p:zc1 t 0 h b n free s=zbd t h n free:=by rw[zc1,if_pos rfl]
theorem z2q:zco t 0 h b n free s=zau t h n free:=by rw[zco,if_pos rfl]
theorem z2r:zc1 t 1 h b n free s=changeE t h b s:=by rw[zc1,if_neg (by decide),if_pos rfl]
theorem z2s:zco t 1 h b n free s=zaf t h b s:=by rw[zco,if_neg (by decide),if_pos rfl]
theorem z2t:zc1 t 2 h b n free s=fillE t h b s:=by rw[zc1,if_neg (by decide),if_neg (by decide),if_pos rfl]
theorem z2u:zco t 2 h b n free s=zao t h b s:=by rw[zco,if_neg (by decide),if_neg (by decide),if_pos rfl]
theorem z2v:zc1 t 3 h b n free s=revokeE t h b:=by rw[zc1,if_neg (by decide),if_neg (by decide),if_neg (by decide),if_pos rfl]
theorem z2w:zco t 3 h b n free s=zag t h b:=by rw[zco,if_neg (by decide),if_neg (by decide),if_neg (by decide),if_pos rfl]
theorem z2x:zc1 t 4 h b n free s=zcy t h:=by rw[zc1,if_neg (by decide),if_neg (by decide),if_neg (by decide),if_neg (by decide)]
theorem z2y:zco t 4 h b n free s=zb2 t h:=by rw[zco,if_neg (by decide),if_neg (by decide),if_neg (by decide),if_neg (by decide)]
end
section
variable {j:Jn} {D:Dk} {a:Ac}
theorem zw3{t:Tx}{k h b n free:Int}{s:ByteArray}:(zco t k h b n free s).seq=t.seq:=by
 have A:∀(h:Int) (x:Hd),(zfc t h x).seq=t.seq:=fun h x=>by unfold zfc;split;rfl;split<;>rfl
 unfold zco;split
 ·rw[zau];split;exact A _ _;rfl
 split
 ·rw[zaf];split;exact ze7 t h b;rfl
 split
 ·rw[zao];split<;>rfl
 split
 ·rw[zag];split;exact ze7 t h b;rfl
 ·rw[zb2];split;exact A _ _;rfl
theorem Md.order(h:Md j D)(hu:j.down=false){k hh b n:Int}{s:ByteArray}(he:zc1 j.now k hh b n (24 - j.ru) s=0)(f g:Nat→Int):Md {j with role:=f,freed:=g,now:=zco j.now k hh b n (24 - j.ru) s} D:=by
 have p:=h.pow hu;obtain⟨J,F,E⟩:=zq2 (k:=k) (h:=hh) (b:=b) (n:=n) (free:=24 - j.ru) (s:=s) p.good;refine h.now hu zw3 J (fun _=>?_) f g;by_cases hk:k=0
 ·exact E he hk
 ·have C:zq3 j.now=true:=by
   have A:(zel j.now hh).on=true:=by
    unfold zc1 at he;rw[if_neg hk]at he;split at he
    ·exact(zcd (zjg he).1).2.2.1
    split at he
    ·exact(zcd (zth he).1).2.2.1
    split at he
    ·exact(zcd (zjh he).1).2.2.1
    ·unfold zcy at he;split at he
     ·cases he
     ·split at he
      ·cases he
      ·rename_i B;simp only[not_or,Bool.not_eq_false]at B;exact B.2.2
   have I:zfm j.now=true:=by
    unfold zel at A;unfold zfm;split at A
    ·simp[A]
    ·split at A<;>simp[A]
   rw[zq3,I];rfl
  exact Int.le_trans (zq1 (F hk)) (p.room C)
theorem zo3{q:Int}(h1:1≤q)(h2:q≤2147483647):za9 (zc5 q)=true:=by
 have B:decide (1≤q)=true:=by simpa using h1
 have A:decide (q≤2147483647)=true:=by simpa using h2
 show za9 ⟨q,[],[],[],⟨false,0⟩,⟨false,0⟩,⟨false,0⟩⟩=true;unfold za9;simp only[B,A];rfl
theorem Md.move{j':Jn}{r:Rp}(h:Md j D)(m:Move j a j' r)(hc:a.kind=6→j.steps=[]→j.now.seq≤j.acts):∃D',Md j' D'∧Trans j D a j' r D':=by
 have B:∀{j':Jn} {r:Rp},Move j a j' r→a.kind≠10→a.kind≠8→Md j' D→∃D',Md j' D'∧Trans j D a j' r D':=fun m h10 h8 hm=>⟨D,hm,.plain m fun _=>⟨h10,fun e=>absurd e h8⟩⟩
 cases m with
 |no e he=>exact⟨D,h,.plain (.no e he) fun e0=>absurd e0 he⟩
 |read hd hk hb A=>exact B (.read hd hk hb A) (by omega) (by omega) h
 |begin hd hk he=>exact B (.begin hd hk he) (by omega) (by omega) (by have C:=h.order hd (k:=0) (hh:=a.h) (b:=0) (n:=a.n) (s:=⟨#[]⟩) (by rw[z2p];exact he) j.role j.freed;rw[z2q]at C;exact C)
 |stop hd hk he=>exact B (.stop hd hk he) (by omega) (by omega) (by have C:=h.order hd (k:=4) (hh:=a.h) (b:=0) (n:=0) (s:=⟨#[]⟩) (by rw[z2x];exact he) j.role j.freed;rw[z2y]at C;exact C)
 |write hd hk he E=>exact B (.write hd hk he E) (by omega) (by omega) (by have C:=h.order hd (k:=1) (hh:=a.h) (b:=a.b) (n:=0) (s:=fitT a.text) (by rw[z2r];exact he) (upd j.role a.b 1) j.freed;rw[z2s]at C;exact C)
 |fill hd hk he E hf=>exact B (.fill hd hk he E hf) (by omega) (by omega) (by have C:=h.order hd (k:=2) (hh:=a.h) (b:=a.b) (n:=0) (s:=fitT a.text) (by rw[z2t];exact he) (upd j.role a.b 2) j.freed;rw[z2u]at C;exact C)
 |revoke hd hk he E=>exact B (.revoke hd hk he E) (by omega) (by omega) (by have C:=h.order hd (k:=3) (hh:=a.h) (b:=a.b) (n:=0) (s:=⟨#[]⟩) (by rw[z2v];exact he) (upd j.role a.b 0) (upd j.freed a.b (zag j.now a.h a.b).seq);rw[z2w]at C;exact C)
 |commit hd hk hs ho hm hq he=>
  refine B (.commit hd hk hs ho hm hq he) (by omega) (by omega) ?_
  cases h with
  |idle p hs2 hz hD A hq2=>
   obtain⟨e,Z,_⟩:=zbs he;have I:0<(commitS j.rh j.ru j.now).length:=by rw[e];simp only[List.length_append,List.length_cons,List.length_nil];omega
   have C:=A.range.1.1;have Y:=hc hk hs;refine .commit j.rh j.ru 0 ⟨p.up,zo3 (by omega) (by omega),?_,p.fL,p.fN,fun hb=>by cases hb⟩ rfl I rfl hD A he hq2 rfl rfl ?_ ?_
   ·show j.now.seq+1≤j.acts+1;omega
   ·show j.now.seq+1=j.last+2;omega
   ·show j.last+1<2147483646;omega
  |commit P U k p hw hk2 hs2 hD A he2 hse hrh hru hq2 hN=>
   rw[hs]at hs2;have:=congrArg List.length hs2;rw[List.length_drop]at this;simp at this;omega
  |check k p hw hz hk2 hs2 hD A hq2=>
   rw[hs]at hs2;have:=congrArg List.length hs2;rw[List.length_drop]at this;simp at this;omega
  |off l N P U p hs2 hf hD A=>rw[p.off]at hd;cases hd
  |back U k p hw hk2 hs2 hD A=>rw[p.off]at hd;cases hd
 |check hd hk hs O he=>
  refine B (.check hd hk hs O he) (by omega) (by omega) ?_
  cases h with
  |idle p hs2 hz hD A hq2=>
   have I:0<(checkS (newestL j.done) j.rh (j.last+1)).length:=by rw[(zea he).1];simp[putR]
   exact .check 0 ⟨p.up,p.good,p.seq,p.fL,p.fN,p.room⟩ rfl hz I rfl hD A hq2
  |commit P U k p hw hk2 hs2 hD A he2 hse hrh hru hq2 hN=>
   rw[hs]at hs2;have:=congrArg List.length hs2;rw[List.length_drop]at this;simp at this;omega
  |check k p hw hz hk2 hs2 hD A hq2=>
   rw[hs]at hs2;have:=congrArg List.length hs2;rw[List.length_drop]at this;simp at this;omega
  |off l N P U p hs2 hf hD A=>rw[p.off]at hd;cases hd
  |back U k p hw hk2 hs2 hD A=>rw[p.off]at hd;cases hd
 |step hk s q hs he E=>exact⟨D,h.step hs E,.plain (.step hk s q hs he E) fun _=>⟨by omega,fun _=>⟨s,q,hs,E,rfl,rfl⟩⟩⟩
 |last hk s hs he=>
  have M:∀(S:List St) (k:Nat),[s]=S.drop k→zbc (runK D (S.take k)) s=runK D S:=by
   intro S k e;obtain⟨d,c,e3⟩:=zez e;rw[←zi2 d]
   have:S.length≤k+1:=by
    have:=congrArg List.length c;rw[List.length_drop]at this;simp at this;omega
   rw[List.take_of_length_le this]
  cases h with
  |idle p hs2 hz hD A hq2=>rw[hs2]at hs;cases hs
  |commit P U k p hw hk2 hs2 hD A he2 hse hrh hru hq2 hN=>
   rw[hs]at hs2;have J:zbc j.disk s=runK D (commitS P U j.sealed):=by rw[hD];exact M _ _ hs2
   obtain⟨F,L⟩:=zz2 A hN hse he2;have Z:=(zbs he2).2.1;refine⟨runK D (commitS P U j.sealed),?_,?_⟩
   ·rw[zbg,if_pos hw,J];refine .idle ⟨p.up,p.good,p.seq,p.fL,p.fN,p.room⟩ rfl rfl rfl ?_ ?_
    ·show Tells _ ((j.done++[j.sealed]).map toldOf) (j.sealed.seq+1) j.rh j.ru;rw[List.map_append,hrh,hru,hse];exact F
    ·show j.now.seq=j.sealed.seq+1;omega
   ·rw[zbg,if_pos hw,J];exact .through _ hk p.up hse Z (by rw[F.tN,A.tN]) (by rw[F.tL,A.tL]) L
  |check k p hw hz hk2 hs2 hD A hq2=>
   rw[hs]at hs2;have J:zbc j.disk s=runK D (checkS (newestL j.done) j.rh (j.last+1)):=by rw[hD];exact M _ _ hs2
   obtain⟨F,L⟩:=znm A;rw[zb9]at F L;have K:¬j.work=6:=by omega
   refine⟨runK D (checkS (newestL j.done) j.rh (j.last+1)),?_,?_⟩
   ·rw[zbg,if_neg K,if_pos hw,J];refine .idle ⟨p.up,p.good,p.seq,p.fL,p.fN,fun hb=>?_⟩ rfl hz rfl F hq2;have:=p.room hb;have h5:=A.range.2.2.1;show zd4 (zb0 j.now)≤24 - 0;omega
   ·rw[zbg,if_neg K,if_pos hw,J];exact .home _ hk p.up hz (by rw[F.tN,A.tN]) F.tL (fun b hb=>by rw[L b hb,zo2,A.tL])
  |off l N P U p hs2 hf hD A=>rw[hs2]at hs;cases hs
  |back U k p hw hk2 hs2 hD A=>
   rw[hs]at hs2;have J:zbc j.disk s=runK D (checkS (newestL j.fL) j.fP j.fN):=by rw[hD];exact M _ _ hs2
   obtain⟨F,L⟩:=znm A;have K:¬j.work=6:=by omega
   have Q:¬j.work=7:=by omega
   have E:=A.range;refine⟨runK D (checkS (newestL j.fL) j.fP j.fN),?_,?_⟩
   ·rw[zbg,if_neg K,if_neg Q,if_pos hw,J];have X:=p.seq;refine .idle ⟨rfl,zo3 E.1.1 E.1.2,X,rfl,rfl,fun hb=>by cases hb⟩ rfl rfl rfl ?_ ?_
    ·show Tells _ [] (j.fN - 1+1) j.fP 0;rw[show j.fN - 1+1=j.fN from by omega];exact F
    ·show j.fN=j.fN - 1+1;omega
   ·rw[zbg,if_neg K,if_neg Q,if_pos hw,J];exact .on _ hk p.off A.tN.symm A.tL.symm (by rw[F.tN,A.tN]) F.tL (fun b hb=>by rw[L b hb,zo2,A.tL])
 |crash hk he=>
  have O:0≤a.n:=by
   unfold crashE at he;split at he
   ·rename_i R;simp only[Bool.and_eq_true,decide_eq_true_eq]at R;exact R.2
   ·cases he
  obtain⟨l,N,P,U,A,C,i,Y,left⟩:=h.crash O;exact⟨_,.off l N P U ⟨rfl,rfl,rfl,rfl,rfl,rfl,h.last0,C,i,Y⟩ rfl ⟨rfl,rfl⟩ rfl A,.crash hk O _ rfl left⟩
 |back hk hd hs hE hc2=>
  refine B (.back hk hd hs hE hc2) (by omega) (by omega) ?_
  cases h with
  |idle p hs2 hz hD A hq2=>rw[p.up]at hd;cases hd
  |commit P U k p hw hk2 hs2 hD A he2 hse hrh hru hq2 hN=>rw[p.up]at hd;cases hd
  |check k p hw hz hk2 hs2 hD A hq2=>rw[p.up]at hd;cases hd
  |off l N P U p hs2 hf hD A=>
   rw[←hD]at A;have I:0<(checkS (newestL (fndL j.disk)) (fndP j.disk) (fndN j.disk)).length:=by rw[(zea hc2).1];simp[putR]
   refine .back U 0 ?_ rfl I rfl hD ?_
   ·show Dn _ (fndN j.disk);rw[A.tN];exact⟨p.off,p.now,p.sealed,p.done,p.ru,p.rh,p.last0,p.lo,p.hi,p.seq⟩
   ·show Tells D (fndL j.disk) (fndN j.disk) (fndP j.disk) U;rw[A.tL,A.tN,A.tP,←hD];exact A
  |back U k p hw hk2 hs2 hD A=>
   rw[hs]at hs2;have:=congrArg List.length hs2;rw[List.length_drop]at this;simp at this;omega
end
theorem JAt.putActs{w:World}{B:Nat}{X:List Nat}{j:Jn}(h:JAt w B X j)(x:Int):JAt (w.setCell ⟨B,0,none⟩ (.int .i64 x)) B X {j with acts:=x}:=by
 obtain⟨A,D,b,l,n,Y,E,K,F,ne,c,Z,u,L,k,M,i,d,r,S,U,a,s,z,h2⟩:=h;have e:Ext (zas w X) (zas (w.setCell ⟨B,0,none⟩ (.int .i64 x)) X):=Ext.butL ((ButL.refl X _ w).set (.inl A) 0 (.int .i64 x));obtain⟨N,I,R,q,Q,y,O,J,p,C⟩:=h2;have m:=heap_setCell_same w B 0 _ _ (.int .i64 x) z;exact⟨A,D,b,l,n,Y,E,K,F,ne,c,Z,u,L,k,M,i,d,r,S,U,a,s,m.trans rfl,N.ext e,I.ext e,R.ext e,q.ext e,Q.ext e,y.ext e,O,J,p,C⟩
theorem JAt.putDisk{w:World}{B:Nat}{X:List Nat}{j:Jn}(h:JAt w B X j){d:Dk}{ua:Option Addr}{uc:Nat}{ub:Option Addr}{ud:Nat}(hD:IsDk (zas w X) (.agg #[.slice ua d.safe.length uc,.slice ub d.wr.length ud]) d):JAt ((w.setCell ⟨B,1,none⟩ (.slice ua d.safe.length uc)).setCell ⟨B,2,none⟩ (.slice ub d.wr.length ud)) B X {j with disk:=d}:=by
 obtain⟨A,da,dc,db,dd,i,D,s,S,ne,l,J,O,Z,K,E,p,m,M,F,I,k,N,R,u⟩:=h;have e:Ext (zas w X) (zas ((w.setCell ⟨B,1,none⟩ (.slice ua d.safe.length uc)).setCell ⟨B,2,none⟩ (.slice ub d.wr.length ud)) X):=Ext.butL (((ButL.refl X _ w).set (.inl A) 1 (.slice ua d.safe.length uc)).set (.inl A) 2 (.slice ub d.wr.length ud));obtain⟨r1,U,c,L,b,Q,a,Y,r,C⟩:=u;have q:=heap_setCell_same w B 1 _ _ (.slice ua d.safe.length uc) R;have n:=heap_setCell_same (w.setCell ⟨B,1,none⟩ (.slice ua d.safe.length uc)) B 2 _ _ (.slice ub d.wr.length ud) q;exact⟨A,ua,uc,ub,ud,i,D,s,S,ne,l,J,O,Z,K,E,p,m,M,F,I,k,N,n.trans rfl,hD.ext e,U.ext e,c.ext e,L.ext e,b.ext e,Q.ext e,a,Y,r,C⟩
theorem JAt.putRing{w:World}{B:Nat}{X:List Nat}{j:Jn}(h:JAt w B X j)(x y:Int):JAt ((w.setCell ⟨B,3,none⟩ (.int .i64 x)).setCell ⟨B,4,none⟩ (.int .i64 y)) B X {j with rh:=x,ru:=y}:=by
 obtain⟨A,D,n,u,N,l,E,nb,Z,ne,p,L,S,c,M,I,s,q,Q,J,K,m,R,Y,h2⟩:=h;have e:Ext (zas w X) (zas ((w.setCell ⟨B,3,none⟩ (.int .i64 x)).setCell ⟨B,4,none⟩ (.int .i64 y)) X):=Ext.butL (((ButL.refl X _ w).set (.inl A) 3 (.int .i64 x)).set (.inl A) 4 (.int .i64 y));obtain⟨F,a,k,O,i,U,d,b,r9,C⟩:=h2;have z:=heap_setCell_same w B 3 _ _ (.int .i64 x) Y;have r:=heap_setCell_same (w.setCell ⟨B,3,none⟩ (.int .i64 x)) B 4 _ _ (.int .i64 y) z;exact⟨A,D,n,u,N,l,E,nb,Z,ne,p,L,S,c,M,I,s,q,Q,J,K,m,R,r.trans rfl,F.ext e,a.ext e,k.ext e,O.ext e,i.ext e,U.ext e,d,b,r9,C⟩
theorem JAt.putUsed{w:World}{B:Nat}{X:List Nat}{j:Jn}(h:JAt w B X j)(y:Int):JAt (w.setCell ⟨B,4,none⟩ (.int .i64 y)) B X {j with ru:=y}:=by
 obtain⟨A,D,b,l,n,Y,E,K,F,ne,c,Z,u,L,k,M,i,d,r,S,U,a,s,z,h2⟩:=h;have e:Ext (zas w X) (zas (w.setCell ⟨B,4,none⟩ (.int .i64 y)) X):=Ext.butL ((ButL.refl X _ w).set (.inl A) 4 (.int .i64 y));obtain⟨N,I,R,q,Q,x,O,J,p,C⟩:=h2;have m:=heap_setCell_same w B 4 _ _ (.int .i64 y) z;exact⟨A,D,b,l,n,Y,E,K,F,ne,c,Z,u,L,k,M,i,d,r,S,U,a,s,m.trans rfl,N.ext e,I.ext e,R.ext e,q.ext e,Q.ext e,x.ext e,O,J,p,C⟩
theorem JAt.putLast{w:World}{B:Nat}{X:List Nat}{j:Jn}(h:JAt w B X j)(x:Int):JAt (w.setCell ⟨B,5,none⟩ (.int .i64 x)) B X {j with last:=x}:=by
 obtain⟨A,D,b,l,n,Y,E,K,F,ne,c,Z,u,L,k,M,i,d,r,S,U,a,s,z,h2⟩:=h;have e:Ext (zas w X) (zas (w.setCell ⟨B,5,none⟩ (.int .i64 x)) X):=Ext.butL ((ButL.refl X _ w).set (.inl A) 5 (.int .i64 x));obtain⟨N,I,R,q,Q,y,O,J,p,C⟩:=h2;have m:=heap_setCell_same w B 5 _ _ (.int .i64 x) z;exact⟨A,D,b,l,n,Y,E,K,F,ne,c,Z,u,L,k,M,i,d,r,S,U,a,s,m.trans rfl,N.ext e,I.ext e,R.ext e,q.ext e,Q.ext e,y.ext e,O,J,p,C⟩
theorem z2z{X:List Nat}{B:Nat}(hB:B∈X)(w:World)(v0 v1 v2 v3 v4 v5 v6 v7 v8 v9:Value):Ext (zas w X) (zas ((((((((((w.setCell ⟨B,31,none⟩ (v0)).setCell ⟨B,32,none⟩ (v1)).setCell ⟨B,33,none⟩ (v2)).setCell ⟨B,34,none⟩ (v3)).setCell ⟨B,35,none⟩ (v4)).setCell ⟨B,36,none⟩ (v5)).setCell ⟨B,37,none⟩ (v6)).setCell ⟨B,38,none⟩ (v7)).setCell ⟨B,39,none⟩ (v8)).setCell ⟨B,40,none⟩ (v9)) X):=
 Ext.butL (((((((((((ButL.refl X _ w).set (.inl hB) 31 v0).set (.inl hB) 32 v1).set (.inl hB) 33 v2).set (.inl hB) 34 v3).set (.inl hB) 35 v4).set (.inl hB) 36 v5).set (.inl hB) 37 v6).set (.inl hB) 38 v7).set (.inl hB) 39 v8).set (.inl hB) 40 v9)
theorem zz5{w:World}{B:Nat}{cs:Array Value}{T:TypeId}(h:w.heap[B]?=some (.cells cs T (0,0)))(v0 v1 v2 v3 v4 v5 v6 v7 v8 v9:Value):((((((((((w.setCell ⟨B,31,none⟩ (v0)).setCell ⟨B,32,none⟩ (v1)).setCell ⟨B,33,none⟩ (v2)).setCell ⟨B,34,none⟩ (v3)).setCell ⟨B,35,none⟩ (v4)).setCell ⟨B,36,none⟩ (v5)).setCell ⟨B,37,none⟩ (v6)).setCell ⟨B,38,none⟩ (v7)).setCell ⟨B,39,none⟩ (v8)).setCell ⟨B,40,none⟩ (v9)).heap[B]?=some (.cells ((((((((((cs.setIfInBounds 31 v0).setIfInBounds 32 v1).setIfInBounds 33 v2).setIfInBounds 34 v3).setIfInBounds 35 v4).setIfInBounds 36 v5).setIfInBounds 37 v6).setIfInBounds 38 v7).setIfInBounds 39 v8).setIfInBounds 40 v9) T (0,0)):=by
 have F:=heap_setCell_same w B 31 _ _ v0 h;have A:=heap_setCell_same (w.setCell ⟨B,31,none⟩ v0) B 32 _ _ v1 F;have J:=heap_setCell_same ((w.setCell ⟨B,31,none⟩ v0).setCell ⟨B,32,none⟩ v1) B 33 _ _ v2 A;have L:=heap_setCell_same (((w.setCell ⟨B,31,none⟩ v0).setCell ⟨B,32,none⟩ v1).setCell ⟨B,33,none⟩ v2) B 34 _ _ v3 J;have D:=heap_setCell_same ((((w.setCell ⟨B,31,none⟩ v0).setCell ⟨B,32,none⟩ v1).setCell ⟨B,33,none⟩ v2).setCell ⟨B,34,none⟩ v3) B 35 _ _ v4 L;have M:=heap_setCell_same (((((w.setCell ⟨B,31,none⟩ v0).setCell ⟨B,32,none⟩ v1).setCell ⟨B,33,none⟩ v2).setCell ⟨B,34,none⟩ v3).setCell ⟨B,35,none⟩ v4) B 36 _ _ v5 D;have I:=heap_setCell_same ((((((w.setCell ⟨B,31,none⟩ v0).setCell ⟨B,32,none⟩ v1).setCell ⟨B,33,none⟩ v2).setCell ⟨B,34,none⟩ v3).setCell ⟨B,35,none⟩ v4).setCell ⟨B,36,none⟩ v5) B 37 _ _ v6 M;have C:=heap_setCell_same (((((((w.setCell ⟨B,31,none⟩ v0).setCell ⟨B,32,none⟩ v1).setCell ⟨B,33,none⟩ v2).setCell ⟨B,34,none⟩ v3).setCell ⟨B,35,none⟩ v4).setCell ⟨B,36,none⟩ v5).setCell ⟨B,37,none⟩ v6) B 38 _ _ v7 I;have E:=heap_setCell_same ((((((((w.setCell ⟨B,31,none⟩ v0).setCell ⟨B,32,none⟩ v1).setCell ⟨B,33,none⟩ v2).setCell ⟨B,34,none⟩ v3).setCell ⟨B,35,none⟩ v4).setCell ⟨B,36,none⟩ v5).setCell ⟨B,37,none⟩ v6).setCell ⟨B,38,none⟩ v7) B 39 _ _ v8 C;have K:=heap_setCell_same (((((((((w.setCell ⟨B,31,none⟩ v0).setCell ⟨B,32,none⟩ v1).setCell ⟨B,33,none⟩ v2).setCell ⟨B,34,none⟩ v3).setCell ⟨B,35,none⟩ v4).setCell ⟨B,36,none⟩ v5).setCell ⟨B,37,none⟩ v6).setCell ⟨B,38,none⟩ v7).setCell ⟨B,39,none⟩ v8) B 40 _ _ v9 E;exact K
theorem z21{X:List Nat}{B:Nat}(hB:B∈X)(w:World)(v0 v1 v2 v3 v4 v5 v6 v7 v8 v9:Value):Ext (zas w X) (zas ((((((((((w.setCell ⟨B,41,none⟩ (v0)).setCell ⟨B,42,none⟩ (v1)).setCell ⟨B,43,none⟩ (v2)).setCell ⟨B,44,none⟩ (v3)).setCell ⟨B,45,none⟩ (v4)).setCell ⟨B,46,none⟩ (v5)).setCell ⟨B,47,none⟩ (v6)).setCell ⟨B,48,none⟩ (v7)).setCell ⟨B,49,none⟩ (v8)).setCell ⟨B,50,none⟩ (v9)) X):=
 Ext.butL (((((((((((ButL.refl X _ w).set (.inl hB) 41 v0).set (.inl hB) 42 v1).set (.inl hB) 43 v2).set (.inl hB) 44 v3).set (.inl hB) 45 v4).set (.inl hB) 46 v5).set (.inl hB) 47 v6).set (.inl hB) 48 v7).set (.inl hB) 49 v8).set (.inl hB) 50 v9)
theorem zz6{w:World}{B:Nat}{cs:Array Value}{T:TypeId}(h:w.heap[B]?=some (.cells cs T (0,0)))(v0 v1 v2 v3 v4 v5 v6 v7 v8 v9:Value):((((((((((w.setCell ⟨B,41,none⟩ (v0)).setCell ⟨B,42,none⟩ (v1)).setCell ⟨B,43,none⟩ (v2)).setCell ⟨B,44,none⟩ (v3)).setCell ⟨B,45,none⟩ (v4)).setCell ⟨B,46,none⟩ (v5)).setCell ⟨B,47,none⟩ (v6)).setCell ⟨B,48,none⟩ (v7)).setCell ⟨B,49,none⟩ (v8)).setCell ⟨B,50,none⟩ (v9)).heap[B]?=some (.cells ((((((((((cs.setIfInBounds 41 v0).setIfInBounds 42 v1).setIfInBounds 43 v2).setIfInBounds 44 v3).setIfInBounds 45 v4).setIfInBounds 46 v5).setIfInBounds 47 v6).setIfInBounds 48 v7).setIfInBounds 49 v8).setIfInBounds 50 v9) T (0,0)):=by
 have F:=heap_setCell_same w B 41 _ _ v0 h;have A:=heap_setCell_same (w.setCell ⟨B,41,none⟩ v0) B 42 _ _ v1 F;have J:=heap_setCell_same ((w.setCell ⟨B,41,none⟩ v0).setCell ⟨B,42,none⟩ v1) B 43 _ _ v2 A;have L:=heap_setCell_same (((w.setCell ⟨B,41,none⟩ v0).setCell ⟨B,42,none⟩ v1).setCell ⟨B,43,none⟩ v2) B 44 _ _ v3 J;have D:=heap_setCell_same ((((w.setCell ⟨B,41,none⟩ v0).setCell ⟨B,42,none⟩ v1).setCell ⟨B,43,none⟩ v2).setCell ⟨B,44,none⟩ v3) B 45 _ _ v4 L;have M:=heap_setCell_same (((((w.setCell ⟨B,41,none⟩ v0).setCell ⟨B,42,none⟩ v1).setCell ⟨B,43,none⟩ v2).setCell ⟨B,44,none⟩ v3).setCell ⟨B,45,none⟩ v4) B 46 _ _ v5 D;have I:=heap_setCell_same ((((((w.setCell ⟨B,41,none⟩ v0).setCell ⟨B,42,none⟩ v1).setCell ⟨B,43,none⟩ v2).setCell ⟨B,44,none⟩ v3).setCell ⟨B,45,none⟩ v4).setCell ⟨B,46,none⟩ v5) B 47 _ _ v6 M;have C:=heap_setCell_same (((((((w.setCell ⟨B,41,none⟩ v0).setCell ⟨B,42,none⟩ v1).setCell ⟨B,43,none⟩ v2).setCell ⟨B,44,none⟩ v3).setCell ⟨B,45,none⟩ v4).setCell ⟨B,46,none⟩ v5).setCell ⟨B,47,none⟩ v6) B 48 _ _ v7 I;have E:=heap_setCell_same ((((((((w.setCell ⟨B,41,none⟩ v0).setCell ⟨B,42,none⟩ v1).setCell ⟨B,43,none⟩ v2).setCell ⟨B,44,none⟩ v3).setCell ⟨B,45,none⟩ v4).setCell ⟨B,46,none⟩ v5).setCell ⟨B,47,none⟩ v6).setCell ⟨B,48,none⟩ v7) B 49 _ _ v8 C;have K:=heap_setCell_same (((((((((w.setCell ⟨B,41,none⟩ v0).setCell ⟨B,42,none⟩ v1).setCell ⟨B,43,none⟩ v2).setCell ⟨B,44,none⟩ v3).setCell ⟨B,45,none⟩ v4).setCell ⟨B,46,none⟩ v5).setCell ⟨B,47,none⟩ v6).setCell ⟨B,48,none⟩ v7).setCell ⟨B,49,none⟩ v8) B 50 _ _ v9 E;exact K
theorem zq4(j:Jn)(da:Option Addr)(dc:Nat)(db:Option Addr)(dd:Nat)(na:Option Addr)(nc:Nat)(nb:Option Addr)(nd:Nat)(ne:Option Addr)(nf:Nat)(sa:Option Addr)(sc:Nat)(sb:Option Addr)(sd:Nat)(se:Option Addr)(sf:Nat)(ca:Option Addr)(cc:Nat)(fa:Option Addr)(fc:Nat)(ta:Option Addr)(tc:Nat){t:Tx}{ua:Option Addr}{uc:Nat}{ub:Option Addr}{ud:Nat}{ue:Option Addr}{uf:Nat}:(((((((((((zbu j da dc db dd na nc nb nd ne nf sa sc sb sd se sf ca cc fa fc ta tc).setIfInBounds 31 (.int .i64 t.seq)).setIfInBounds 32 (.slice ua t.info.length uc)).setIfInBounds 33 (.slice ub t.data.length ud)).setIfInBounds 34 (.slice ue t.rev.length uf)).setIfInBounds 35 (.bool t.h0.on)).setIfInBounds 36 (.int .i64 t.h0.left)).setIfInBounds 37 (.bool t.h1.on)).setIfInBounds 38 (.int .i64 t.h1.left)).setIfInBounds 39 (.bool t.h2.on)).setIfInBounds 40 (.int .i64 t.h2.left))=zbu {j with now:=t} da dc db dd ua uc ub ud ue uf sa sc sb sd se sf ca cc fa fc ta tc:=by
 kernel_rfl
theorem JAt.putNow{w:World}{B:Nat}{X:List Nat}{j:Jn}(h:JAt w B X j){t:Tx}{ua:Option Addr}{uc:Nat}{ub:Option Addr}{ud:Nat}{ue:Option Addr}{uf:Nat}(hT:IsTx (zas w X) (.agg #[.int .i64 t.seq,.slice ua t.info.length uc,.slice ub t.data.length ud,.slice ue t.rev.length uf,.bool t.h0.on,.int .i64 t.h0.left,.bool t.h1.on,.int .i64 t.h1.left,.bool t.h2.on,.int .i64 t.h2.left]) t)(hR:RoomTx (.agg #[.int .i64 t.seq,.slice ua t.info.length uc,.slice ub t.data.length ud,.slice ue t.rev.length uf,.bool t.h0.on,.int .i64 t.h0.left,.bool t.h1.on,.int .i64 t.h1.left,.bool t.h2.on,.int .i64 t.h2.left])):JAt ((((((((((w.setCell ⟨B,31,none⟩ (.int .i64 t.seq)).setCell ⟨B,32,none⟩ (.slice ua t.info.length uc)).setCell ⟨B,33,none⟩ (.slice ub t.data.length ud)).setCell ⟨B,34,none⟩ (.slice ue t.rev.length uf)).setCell ⟨B,35,none⟩ (.bool t.h0.on)).setCell ⟨B,36,none⟩ (.int .i64 t.h0.left)).setCell ⟨B,37,none⟩ (.bool t.h1.on)).setCell ⟨B,38,none⟩ (.int .i64 t.h1.left)).setCell ⟨B,39,none⟩ (.bool t.h2.on)).setCell ⟨B,40,none⟩ (.int .i64 t.h2.left)) B X {j with now:=t}:=by
 obtain⟨A,D,R,Z,a,na,nc,nb,nd,ne,nf,O,l,F,Y,I,U,S,d,M,N,Q,i,h1,h2⟩:=h;have e:=z2z A w (.int .i64 t.seq) (.slice ua t.info.length uc) (.slice ub t.data.length ud) (.slice ue t.rev.length uf) (.bool t.h0.on) (.int .i64 t.h0.left) (.bool t.h1.on) (.int .i64 t.h1.left) (.bool t.h2.on) (.int .i64 t.h2.left);have k:=zz5 h1 (.int .i64 t.seq) (.slice ua t.info.length uc) (.slice ub t.data.length ud) (.slice ue t.rev.length uf) (.bool t.h0.on) (.int .i64 t.h0.left) (.bool t.h1.on) (.int .i64 t.h1.left) (.bool t.h2.on) (.int .i64 t.h2.left);rw[zq4]at k;obtain⟨J,r2,L,c,K,m,r7,E,b,C⟩:=h2;exact⟨A,D,R,Z,a,ua,uc,ub,ud,ue,uf,O,l,F,Y,I,U,S,d,M,N,Q,i,k,J.ext e,hT.ext e,L.ext e,c.ext e,K.ext e,m.ext e,hR,E,b,C⟩
theorem zl4(j:Jn)(da:Option Addr)(dc:Nat)(db:Option Addr)(dd:Nat)(na:Option Addr)(nc:Nat)(nb:Option Addr)(nd:Nat)(ne:Option Addr)(nf:Nat)(sa:Option Addr)(sc:Nat)(sb:Option Addr)(sd:Nat)(se:Option Addr)(sf:Nat)(ca:Option Addr)(cc:Nat)(fa:Option Addr)(fc:Nat)(ta:Option Addr)(tc:Nat){t:Tx}{ua:Option Addr}{uc:Nat}{ub:Option Addr}{ud:Nat}{ue:Option Addr}{uf:Nat}:(((((((((((zbu j da dc db dd na nc nb nd ne nf sa sc sb sd se sf ca cc fa fc ta tc).setIfInBounds 41 (.int .i64 t.seq)).setIfInBounds 42 (.slice ua t.info.length uc)).setIfInBounds 43 (.slice ub t.data.length ud)).setIfInBounds 44 (.slice ue t.rev.length uf)).setIfInBounds 45 (.bool t.h0.on)).setIfInBounds 46 (.int .i64 t.h0.left)).setIfInBounds 47 (.bool t.h1.on)).setIfInBounds 48 (.int .i64 t.h1.left)).setIfInBounds 49 (.bool t.h2.on)).setIfInBounds 50 (.int .i64 t.h2.left))=zbu {j with sealed:=t} da dc db dd na nc nb nd ne nf ua uc ub ud ue uf ca cc fa fc ta tc:=by
 kernel_rfl
theorem JAt.putSealed{w:World}{B:Nat}{X:List Nat}{j:Jn}(h:JAt w B X j){t:Tx}{ua:Option Addr}{uc:Nat}{ub:Option Addr}{ud:Nat}{ue:Option Addr}{uf:Nat}(hT:IsTx (zas w X) (.agg #[.int .i64 t.seq,.slice ua t.info.length uc,.slice ub t.data.length ud,.slice ue t.rev.length uf,.bool t.h0.on,.int .i64 t.h0.left,.bool t.h1.on,.int .i64 t.h1.left,.bool t.h2.on,.int .i64 t.h2.left]) t):JAt ((((((((((w.setCell ⟨B,41,none⟩ (.int .i64 t.seq)).setCell ⟨B,42,none⟩ (.slice ua t.info.length uc)).setCell ⟨B,43,none⟩ (.slice ub t.data.length ud)).setCell ⟨B,44,none⟩ (.slice ue t.rev.length uf)).setCell ⟨B,45,none⟩ (.bool t.h0.on)).setCell ⟨B,46,none⟩ (.int .i64 t.h0.left)).setCell ⟨B,47,none⟩ (.bool t.h1.on)).setCell ⟨B,48,none⟩ (.int .i64 t.h1.left)).setCell ⟨B,49,none⟩ (.bool t.h2.on)).setCell ⟨B,50,none⟩ (.int .i64 t.h2.left)) B X {j with sealed:=t}:=by
 obtain⟨A,D,U,a,b,R,E,K,F,ne,Y,sa,sc,sb,sd,se,sf,Z,i,O,Q,S,l,h1,h2⟩:=h;have e:=z21 A w (.int .i64 t.seq) (.slice ua t.info.length uc) (.slice ub t.data.length ud) (.slice ue t.rev.length uf) (.bool t.h0.on) (.int .i64 t.h0.left) (.bool t.h1.on) (.int .i64 t.h1.left) (.bool t.h2.on) (.int .i64 t.h2.left);have k:=zz6 h1 (.int .i64 t.seq) (.slice ua t.info.length uc) (.slice ub t.data.length ud) (.slice ue t.rev.length uf) (.bool t.h0.on) (.int .i64 t.h0.left) (.bool t.h1.on) (.int .i64 t.h1.left) (.bool t.h2.on) (.int .i64 t.h2.left);rw[zl4]at k;obtain⟨L,I,r3,d,N,m,M,J,c,C⟩:=h2;exact⟨A,D,U,a,b,R,E,K,F,ne,Y,ua,uc,ub,ud,ue,uf,Z,i,O,Q,S,l,k,L.ext e,I.ext e,hT.ext e,d.ext e,N.ext e,m.ext e,M,J,c,C⟩
theorem JAt.putDone{w:World}{B:Nat}{X:List Nat}{j:Jn}(h:JAt w B X j){l:List Tx}{ua:Option Addr}{uc:Nat}(hS:SegTx (zas w X) ua l):JAt (w.setCell ⟨B,51,none⟩ (.slice ua l.length uc)) B X {j with done:=l}:=by
 obtain⟨A,D,b,k,n,Y,E,K,F,ne,c,Z,q,L,i,M,d,ca,cc,S,U,a,p,s,u⟩:=h;have e:Ext (zas w X) (zas (w.setCell ⟨B,51,none⟩ (.slice ua l.length uc)) X):=Ext.butL ((ButL.refl X _ w).set (.inl A) 51 (.slice ua l.length uc));obtain⟨N,I,R,r4,Q,r,O,J,r9,C⟩:=u;have m:=heap_setCell_same w B 51 _ _ (.slice ua l.length uc) s;exact⟨A,D,b,k,n,Y,E,K,F,ne,c,Z,q,L,i,M,d,ua,uc,S,U,a,p,m.trans rfl,N.ext e,I.ext e,R.ext e,hS.ext e,Q.ext e,r.ext e,O,J,Nat.zero_le _,C⟩
theorem JAt.putFound{w:World}{B:Nat}{X:List Nat}{j:Jn}(h:JAt w B X j){l:List Tx}{ua:Option Addr}{uc:Nat}(x y:Int)(hS:SegTx (zas w X) ua l):JAt (((w.setCell ⟨B,52,none⟩ (.slice ua l.length uc)).setCell ⟨B,53,none⟩ (.int .i64 x)).setCell ⟨B,54,none⟩ (.int .i64 y)) B X {j with fL:=l,fN:=x,fP:=y}:=by
 obtain⟨A,C,k,r,K,c,D,z,S,ne,m,I,O,Z,J,F,q,n,M,fa,fc,i,N,R,h2⟩:=h;have e:Ext (zas w X) (zas (((w.setCell ⟨B,52,none⟩ (.slice ua l.length uc)).setCell ⟨B,53,none⟩ (.int .i64 x)).setCell ⟨B,54,none⟩ (.int .i64 y)) X):=Ext.butL ((((ButL.refl X _ w).set (.inl A) 52 (.slice ua l.length uc)).set (.inl A) 53 (.int .i64 x)).set (.inl A) 54 (.int .i64 y));obtain⟨E,U,b,L,r5,Q,a,Y,u,A0⟩:=h2;have s:=heap_setCell_same w B 52 _ _ (.slice ua l.length uc) R;have p:=heap_setCell_same (w.setCell ⟨B,52,none⟩ (.slice ua l.length uc)) B 53 _ _ (.int .i64 x) s;have d:=heap_setCell_same ((w.setCell ⟨B,52,none⟩ (.slice ua l.length uc)).setCell ⟨B,53,none⟩ (.int .i64 x)) B 54 _ _ (.int .i64 y) p;exact⟨A,C,k,r,K,c,D,z,S,ne,m,I,O,Z,J,F,q,n,M,ua,uc,i,N,d.trans rfl,E.ext e,U.ext e,b.ext e,L.ext e,hS.ext e,Q.ext e,a,Y,u,Nat.zero_le _⟩
theorem JAt.putWork{w:World}{B:Nat}{X:List Nat}{j:Jn}(h:JAt w B X j)(x:Int):JAt (w.setCell ⟨B,55,none⟩ (.int .i64 x)) B X {j with work:=x}:=by
 obtain⟨A,D,b,l,n,Y,E,K,F,ne,c,Z,u,L,k,M,i,d,r,S,U,a,s,z,h2⟩:=h;have e:Ext (zas w X) (zas (w.setCell ⟨B,55,none⟩ (.int .i64 x)) X):=Ext.butL ((ButL.refl X _ w).set (.inl A) 55 (.int .i64 x));obtain⟨N,I,R,q,Q,y,O,J,p,C⟩:=h2;have m:=heap_setCell_same w B 55 _ _ (.int .i64 x) z;exact⟨A,D,b,l,n,Y,E,K,F,ne,c,Z,u,L,k,M,i,d,r,S,U,a,s,m.trans rfl,N.ext e,I.ext e,R.ext e,q.ext e,Q.ext e,y.ext e,O,J,p,C⟩
theorem JAt.putSteps{w:World}{B:Nat}{X:List Nat}{j:Jn}(h:JAt w B X j){l:List St}{ua:Option Addr}{uc:Nat}(hS:SegSt (zas w X) ua l)(hc:l.length≤uc):JAt (w.setCell ⟨B,56,none⟩ (.slice ua l.length uc)) B X {j with steps:=l}:=by
 obtain⟨A,D,Z,i,m,U,E,J,F,ne,a,Y,r,K,d,L,c,b,q,R,S,ta,tc,s,u⟩:=h;have e:Ext (zas w X) (zas (w.setCell ⟨B,56,none⟩ (.slice ua l.length uc)) X):=Ext.butL ((ButL.refl X _ w).set (.inl A) 56 (.slice ua l.length uc));obtain⟨M,I,Q,p,O,r6,N,r8,n,C⟩:=u;have k:=heap_setCell_same w B 56 _ _ (.slice ua l.length uc) s;exact⟨A,D,Z,i,m,U,E,J,F,ne,a,Y,r,K,d,L,c,b,q,R,S,ua,uc,k.trans rfl,M.ext e,I.ext e,Q.ext e,p.ext e,O.ext e,hS.ext e,N,hc,n,C⟩
theorem JAt.putRole{w:World}{B:Nat}{X:List Nat}{j:Jn}(h:JAt w B X j)(b:Nat)(hb:b<12)(x:Int):JAt (w.setCell ⟨B,7+b*2,none⟩ (.int .i64 x)) B X {j with role:=upd j.role b x}:=by
 obtain⟨C,E,d,p,q,Z,F,L,I,ne,i,a,z,M,m,N,l,k,u,U,Y,c,y,h1,h2⟩:=h;have e:Ext (zas w X) (zas (w.setCell ⟨B,7+b*2,none⟩ (.int .i64 x)) X):=Ext.butL ((ButL.refl X _ w).set (.inl C) _ _);obtain⟨O,J,S,s,R,r6,Q,K,r,D⟩:=h2;have A:=heap_setCell_same w B (7+b*2) _ _ (.int .i64 x) h1;refine⟨C,E,d,p,q,Z,F,L,I,ne,i,a,z,M,m,N,l,k,u,U,Y,c,y,?_,O.ext e,J.ext e,S.ext e,s.ext e,R.ext e,r6.ext e,Q,K,r,D⟩
 match b,hb,A with
 |0,_,A=>exact A.trans rfl
 |1,_,A=>exact A.trans rfl
 |2,_,A=>exact A.trans rfl
 |3,_,A=>exact A.trans rfl
 |4,_,A=>exact A.trans rfl
 |5,_,A=>exact A.trans rfl
 |6,_,A=>exact A.trans rfl
 |7,_,A=>exact A.trans rfl
 |8,_,A=>exact A.trans rfl
 |9,_,A=>exact A.trans rfl
 |10,_,A=>exact A.trans rfl
 |11,_,A=>exact A.trans rfl
 |n+12,hb,_=>omega
theorem JAt.putFreed{w:World}{B:Nat}{X:List Nat}{j:Jn}(h:JAt w B X j)(b:Nat)(hb:b<12)(x:Int):JAt (w.setCell ⟨B,8+b*2,none⟩ (.int .i64 x)) B X {j with freed:=upd j.freed b x}:=by
 obtain⟨C,E,d,p,q,Z,F,L,I,ne,i,a,z,M,m,N,l,k,u,U,Y,c,y,h1,h2⟩:=h;have e:Ext (zas w X) (zas (w.setCell ⟨B,8+b*2,none⟩ (.int .i64 x)) X):=Ext.butL ((ButL.refl X _ w).set (.inl C) _ _);obtain⟨O,J,S,s,R,r6,Q,K,r,D⟩:=h2;have A:=heap_setCell_same w B (8+b*2) _ _ (.int .i64 x) h1;refine⟨C,E,d,p,q,Z,F,L,I,ne,i,a,z,M,m,N,l,k,u,U,Y,c,y,?_,O.ext e,J.ext e,S.ext e,s.ext e,R.ext e,r6.ext e,Q,K,r,D⟩
 match b,hb,A with
 |0,_,A=>exact A.trans rfl
 |1,_,A=>exact A.trans rfl
 |2,_,A=>exact A.trans rfl
 |3,_,A=>exact A.trans rfl
 |4,_,A=>exact A.trans rfl
 |5,_,A=>exact A.trans rfl
 |6,_,A=>exact A.trans rfl
 |7,_,A=>exact A.trans rfl
 |8,_,A=>exact A.trans rfl
 |9,_,A=>exact A.trans rfl
 |10,_,A=>exact A.trans rfl
 |11,_,A=>exact A.trans rfl
 |n+12,hb,_=>omega
open Go.Proofs.Tryz
def zdj (w:World)(B:Nat)(X:List Nat)(p:Jn×Rp)(e:Ending)(w':World):Prop:=e=.returned (vRp p.2)∧JAt w' B X p.1∧ButL [B] w.heap.size w w'
theorem zbo{w:World}{B:Nat}{v0 v1 v2:Value}{t:TypeId}(h:w.heap[B]?=some (.cells #[v0,v1,v2] t (0,0))):
  (w.cell? ⟨B,0,none⟩=some v0∧w.cell? ⟨B,1,none⟩=some v1∧w.cell? ⟨B,2,none⟩=some v2)∧(w.frozen? ⟨B,0,none⟩=false∧w.frozen? ⟨B,1,none⟩=false∧w.frozen? ⟨B,2,none⟩=false):=by
 refine⟨⟨?_,?_,?_⟩,frozen_of_row w _ _ _ _ h,frozen_of_row w _ _ _ _ h,frozen_of_row w _ _ _ _ h⟩<;>(rw[cell_of_row w _ _ _ _ _ h];rfl)
theorem zw4{w:World}{r:Nat}{B:Nat}{X:List Nat}{j:Jn}(hJ:JAt w B (r::X) j)(hr:r≠B)(hB:B∈X)(v0 v1 v2:Value):
  JAt (((w.setCell ⟨r,0,none⟩ v0).setCell ⟨r,1,none⟩ v1).setCell ⟨r,2,none⟩ v2) B X j:=
 (((hJ.set (by simp) hr 0 v0).set (by simp) hr 1 v1).set (by simp) hr 2 v2).less hB
theorem zbe{P0:Program}{fn:Func}{a:Act}{w w2:World}{r B:Nat}{X:List Nat}{P:Jn×Rp}{j:Jn}{y:Rp}{t:TypeId}{z0 z1 z2 v0 v1 v2:Value}(hE:P=(j,y))(KR:w2.heap[r]?=some (.cells #[z0,z1,z2] t (0,0)))(HJ:JAt w2 B (r::X) j)(HB:ButL [B] w.heap.size w w2)(hrB:r≠B)(hBX:B∈X)
  (hres:∀W:World,W.cell? ⟨r,0,none⟩=some v0→W.cell? ⟨r,1,none⟩=some v1→W.cell? ⟨r,2,none⟩=some v2→(results fn a.tmps).run P0 W=.ok (.agg #[v0,v1,v2]) W) (hd:a.defers=[]:=by rfl) (hv:vRp y=.agg #[v0,v1,v2]:=by rfl) (hr:w.heap.size≤r:=by omega):
  bodyPost P0 fn (zdj w B X P) .ret a (((w2.setCell ⟨r,0,none⟩ v0).setCell ⟨r,1,none⟩ v1).setCell ⟨r,2,none⟩ v2):=by
 obtain⟨⟨u0,u1,u2⟩,_⟩:=zbo (zgf KR v0 v1 v2);refine bodyPost_ret (hres _ u0 u1 u2) hd ⟨by rw[hE,←hv],?_,((HB.set (.inr hr) 0 _).set (.inr hr) 1 _).set (.inr hr) 2 _⟩;rw[hE];exact zw4 HJ hrB hBX _ _ _
theorem z22(B:Nat)(w:World)(v0 v1 v2 v3 v4 v5 v6 v7 v8 v9:Value):ButL [B] w.heap.size w ((((((((((w.setCell ⟨B,31,none⟩ (v0)).setCell ⟨B,32,none⟩ (v1)).setCell ⟨B,33,none⟩ (v2)).setCell ⟨B,34,none⟩ (v3)).setCell ⟨B,35,none⟩ (v4)).setCell ⟨B,36,none⟩ (v5)).setCell ⟨B,37,none⟩ (v6)).setCell ⟨B,38,none⟩ (v7)).setCell ⟨B,39,none⟩ (v8)).setCell ⟨B,40,none⟩ (v9)):=
 (((((((((((ButL.refl [B] _ w).set (.inl (by simp)) 31 v0).set (.inl (by simp)) 32 v1).set (.inl (by simp)) 33 v2).set (.inl (by simp)) 34 v3).set (.inl (by simp)) 35 v4).set (.inl (by simp)) 36 v5).set (.inl (by simp)) 37 v6).set (.inl (by simp)) 38 v7).set (.inl (by simp)) 39 v8).set (.inl (by simp)) 40 v9)
theorem zji(B:Nat)(X:List Nat)(j:Jn)(w:World)(h:JAt w B X j)(t:Tx)(ua:Option Addr)(uc:Nat)(ub:Option Addr)(ud:Nat)(ue:Option Addr)(uf:Nat)(hT:IsTx (zas w X) (.agg #[.int .i64 t.seq,.slice ua t.info.length uc,.slice ub t.data.length ud,.slice ue t.rev.length uf,.bool t.h0.on,.int .i64 t.h0.left,.bool t.h1.on,.int .i64 t.h1.left,.bool t.h2.on,.int .i64 t.h2.left]) t)(hR:RoomTx (.agg #[.int .i64 t.seq,.slice ua t.info.length uc,.slice ub t.data.length ud,.slice ue t.rev.length uf,.bool t.h0.on,.int .i64 t.h0.left,.bool t.h1.on,.int .i64 t.h1.left,.bool t.h2.on,.int .i64 t.h2.left]))(e:Int):
  Calls prog 79 #[.pointer (some ⟨B,0,none⟩),.agg #[.int .i64 t.seq,.slice ua t.info.length uc,.slice ub t.data.length ud,.slice ue t.rev.length uf,.bool t.h0.on,.int .i64 t.h0.left,.bool t.h1.on,.int .i64 t.h1.left,.bool t.h2.on,.int .i64 t.h2.left],.int .i64 e] w (zdj w B X (zls j t e)):=by
 have HJ:=zaa h;have A5:=h.lt;have A2:=h.1;have HT:=zaa hT;have HR:=zaa hR;obtain⟨_,da,dc,db,dd,na,nc,nb,nd,ne,nf,sa,sc,sb,sd,se,sf,ca,cc,fa,fc,ta,tc,h1,_⟩:=h;have u:w.cell? ⟨B,31,none⟩=some (.int .i64 j.now.seq):=zak h1 31;have d:w.frozen? ⟨B,31,none⟩=false:=frozen_of_row w _ _ _ _ h1;have n:w.cell? ⟨B,32,none⟩=some (.slice na j.now.info.length nc):=zak h1 32;have k:w.frozen? ⟨B,32,none⟩=false:=frozen_of_row w _ _ _ _ h1;have y:w.cell? ⟨B,33,none⟩=some (.slice nb j.now.data.length nd):=zak h1 33;have R:w.frozen? ⟨B,33,none⟩=false:=frozen_of_row w _ _ _ _ h1;have r:w.cell? ⟨B,34,none⟩=some (.slice ne j.now.rev.length nf):=zak h1 34;have S:w.frozen? ⟨B,34,none⟩=false:=frozen_of_row w _ _ _ _ h1;have A1:w.cell? ⟨B,35,none⟩=some (.bool j.now.h0.on):=zak h1 35;have O:w.frozen? ⟨B,35,none⟩=false:=frozen_of_row w _ _ _ _ h1;have m:w.cell? ⟨B,36,none⟩=some (.int .i64 j.now.h0.left):=zak h1 36;have l:w.frozen? ⟨B,36,none⟩=false:=frozen_of_row w _ _ _ _ h1;have p:w.cell? ⟨B,37,none⟩=some (.bool j.now.h1.on):=zak h1 37;have c:w.frozen? ⟨B,37,none⟩=false:=frozen_of_row w _ _ _ _ h1;have x:w.cell? ⟨B,38,none⟩=some (.int .i64 j.now.h1.left):=zak h1 38;have L:w.frozen? ⟨B,38,none⟩=false:=frozen_of_row w _ _ _ _ h1;have q:w.cell? ⟨B,39,none⟩=some (.bool j.now.h2.on):=zak h1 39;have Z:w.frozen? ⟨B,39,none⟩=false:=frozen_of_row w _ _ _ _ h1;have z:w.cell? ⟨B,40,none⟩=some (.int .i64 j.now.h2.left):=zak h1 40;have Q:w.frozen? ⟨B,40,none⟩=false:=frozen_of_row w _ _ _ _ h1;have A3:¬B=w.heap.size:=by omega
 have A4:¬B=w.heap.size+1:=by omega
 clear h1 hT hR;by_cases he:e=0
 ·have HE:Hid (zls j t e=({j with now:=t},zaq 0)):=by rw[Hid,zls,if_pos he]
  subst he;go_enter func79,ntmps79;go_wp2_with fail;obtain⟨K,I⟩:∃K,K=((((((((((w.setCell ⟨B,31,none⟩ (.int .i64 t.seq)).setCell ⟨B,32,none⟩ (.slice ua t.info.length uc)).setCell ⟨B,33,none⟩ (.slice ub t.data.length ud)).setCell ⟨B,34,none⟩ (.slice ue t.rev.length uf)).setCell ⟨B,35,none⟩ (.bool t.h0.on)).setCell ⟨B,36,none⟩ (.int .i64 t.h0.left)).setCell ⟨B,37,none⟩ (.bool t.h1.on)).setCell ⟨B,38,none⟩ (.int .i64 t.h1.left)).setCell ⟨B,39,none⟩ (.bool t.h2.on)).setCell ⟨B,40,none⟩ (.int .i64 t.h2.left)):=⟨_,rfl⟩;have s:JAt K B X {j with now:=t}:=by rw[I];exact HJ.o.putNow HT.o HR.o
  have U:ButL [B] w.heap.size w K:=by rw[I];exact z22 B w _ _ _ _ _ _ _ _ _ _
  have A0:K.heap.size=w.heap.size:=by rw[I];simp[World.setCell]
  rw[←I];obtain⟨D,A⟩:∃D,D=(K.alloc (.cells #[.int .i64 t.seq,.slice ua t.info.length uc,.slice ub t.data.length ud,.slice ue t.rev.length uf,.bool t.h0.on,.int .i64 t.h0.left,.bool t.h1.on,.int .i64 t.h1.left,.bool t.h2.on,.int .i64 t.h2.left] 40)).alloc (.cells #[.int .i64 0,.int .i64 0,.string ⟨#[]⟩] 31):=⟨_,rfl⟩;have E:(K.alloc (.cells #[.int .i64 t.seq,.slice ua t.info.length uc,.slice ub t.data.length ud,.slice ue t.rev.length uf,.bool t.h0.on,.int .i64 t.h0.left,.bool t.h1.on,.int .i64 t.h1.left,.bool t.h2.on,.int .i64 t.h2.left] 40)).heap.size=w.heap.size+1:=by simp[A0]
  have N:Hid (JAt D B ((w.heap.size+1)::X) {j with now:=t}):=by rw[A];exact(s.below (zab _ _)).more (zab _ _) (by omega)
  have F:Hid (ButL [B] w.heap.size w D):=by rw[A];exact U.trans (Y:=[]) (ButL.of_below (zae (zab _ _) (zab _ _))) U.size (by simp)
  have KR:Hid (D.heap[w.heap.size+1]?=some (.cells #[.int .i64 0,.int .i64 0,.string ⟨#[]⟩] 31 (0,0))):=by rw[A,←E];exact heap_alloc_new _ _
  have b:w.heap.size+1<D.heap.size:=by rw[A];simp;omega
  have i:w.heap.size+1≠B:=by omega
  rw[←A];clear I A s U A0 E u d n k y R r S A1 O m l p c x L q Z z Q;refine(zat 0 _).mono ?_;rintro e w2 ⟨rfl,C⟩;have J:=zaa (zad C b KR.o);have M:=zaa (N.o.below C);have a:=zaa (F.o.trans (Y:=[]) (ButL.of_below C) F.o.size (by simp));clear C;obtain⟨⟨y0,y1,y2⟩,yf⟩:=zbo J.o;go_wp2;exact zbe HE.o J.o M.o a.o i A2 fun W u0 u1 u2=>by simp[results,results79,go_sem,u0,u1,u2]
 ·have HE:Hid (zls j t e=(j,zaq e)):=by rw[Hid,zls,if_neg he]
  have A6:(e==0)=false:=by simpa using he
  clear he;go_enter func79,ntmps79;go_wp2_with fail;obtain⟨D,A⟩:∃D,D=(w.alloc (.cells #[.int .i64 t.seq,.slice ua t.info.length uc,.slice ub t.data.length ud,.slice ue t.rev.length uf,.bool t.h0.on,.int .i64 t.h0.left,.bool t.h1.on,.int .i64 t.h1.left,.bool t.h2.on,.int .i64 t.h2.left] 40)).alloc (.cells #[.int .i64 0,.int .i64 0,.string ⟨#[]⟩] 31):=⟨_,rfl⟩;have E:(w.alloc (.cells #[.int .i64 t.seq,.slice ua t.info.length uc,.slice ub t.data.length ud,.slice ue t.rev.length uf,.bool t.h0.on,.int .i64 t.h0.left,.bool t.h1.on,.int .i64 t.h1.left,.bool t.h2.on,.int .i64 t.h2.left] 40)).heap.size=w.heap.size+1:=by simp
  have N:Hid (JAt D B ((w.heap.size+1)::X) j):=by rw[A];exact(HJ.o.below (zab _ _)).more (zab _ _) (by omega)
  have F:Hid (ButL [B] w.heap.size w D):=by rw[A];exact ButL.of_below (zae (zab _ _) (zab _ _))
  have KR:Hid (D.heap[w.heap.size+1]?=some (.cells #[.int .i64 0,.int .i64 0,.string ⟨#[]⟩] 31 (0,0))):=by rw[A,←E];exact heap_alloc_new _ _
  have b:w.heap.size+1<D.heap.size:=by rw[A];simp
  have i:w.heap.size+1≠B:=by omega
  rw[←A];clear A E u d n k y R r S A1 O m l p c x L q Z z Q;refine(zat e _).mono ?_;rintro e w2 ⟨rfl,C⟩;have J:=zaa (zad C b KR.o);have M:=zaa (N.o.below C);have a:=zaa (F.o.trans (Y:=[]) (ButL.of_below C) F.o.size (by simp));clear C;obtain⟨⟨y0,y1,y2⟩,yf⟩:=zbo J.o;go_wp2;exact zbe HE.o J.o M.o a.o i A2 fun W u0 u1 u2=>by simp[results,results79,go_sem,u0,u1,u2]
theorem zq5(B:Nat)(X:List Nat)(j:Jn)(w:World)(h:JAt w B X j)(hX:∀x∈X,x<w.heap.size)(wk:Int)(a:Option Addr)(c:Nat)(l:List (Int×ByteArray))(hS:SegW w a l)(hn:l.length*24≤140737488355328)(p q:Int):
  Calls Tryz.prog 77 #[.pointer (some ⟨B,0,none⟩),.int .i64 wk,.slice a l.length c,.int .i64 p,.int .i64 q] w fun e w'=>e=.returned (.int .i64 (zdy j wk l p q).2)∧JAt w' B X (zdy j wk l p q).1∧ButL [B] w.heap.size w w':=by
 have R:=zaa h;have A2:=h.lt;have O:=h.1;have Z:=zaa hX;have S:=zaa hS;clear hS hX;go_enter Tryz.func77,Tryz.ntmps77;go_wp2_with fail;refine(zwc a c l p q _ S.o hn).mono ?_;rintro e A ⟨a2,c2,rfl,I,N,J,Q⟩;have C:=zaa (R.o.below J);have K:Hid (ButL [B] w.heap.size w A):=ButL.of_below J;have L:=zaa (N.hideF (X:=X) (fun b off e=>Q b off e) Z.o);have A4:B<A.heap.size:=C.o.lt;clear N J Q h;by_cases he:checkE l p q=0
 ·have D:Hid (zdy j wk l p q=({j with work:=wk,steps:=checkS l p q},0)):=by rw[Hid,zdy,if_pos he]
  rw[he];clear he;obtain⟨_,da,dc,db,dd,na,nc,nb,nd,ne,nf,sa,sc,sb,sd,se,sf,ca,cc,fa,fc,Y,U,F,_⟩:=id C.o;have A5:A.cell? ⟨B,55,none⟩=some (.int .i64 j.work):=zak F 55;have A0:A.frozen? ⟨B,55,none⟩=false:=frozen_of_row A _ _ _ _ F;have A3:A.cell? ⟨B,56,none⟩=some (.slice Y j.steps.length U):=zak F 56;have A1:A.frozen? ⟨B,56,none⟩=false:=frozen_of_row A _ _ _ _ F;clear F;obtain⟨ST,M⟩:∃ST,ST=checkS l p q:=⟨_,rfl⟩;rw[←M]at I L D⊢;clear M;go_wp2;go_ret;refine⟨by rw[D.o];rfl,?_,(K.o.set (.inl (by simp)) 55 _).set (.inl (by simp)) 56 _⟩;rw[D.o];exact(C.o.putWork wk).putSteps (L.o.ext (Ext.setL O 55 (.int .i64 wk))) I
 ·have D:Hid (zdy j wk l p q=(j,checkE l p q)):=by rw[Hid,zdy,if_neg he]
  have A6:(checkE l p q==0)=false:=by simpa using he
  clear he;generalize checkE l p q=E at *;go_wp2;go_ret;exact⟨by rw[D.o];rfl,by rw[D.o];exact C.o,K.o⟩
open Go.Proofs.Tryz
open Go.RowKit Go.Shelf
attribute [local go_sem] Oper.semAt_some
theorem z3b{l:List Tx}{k:Nat}(h:k<l.length):l.reverse.drop k=l.getD (l.length - 1 - k) txz::l.reverse.drop (k+1):=by
 rw[List.drop_eq_getElem_cons (by simpa using h),List.getElem_reverse,List.getD,List.getElem?_eq_getElem (by omega)];rfl
theorem zxn{l:List Tx}{k:Nat}(h:k<l.length)(b:Int):zcr (l.reverse.drop k) b=if za7 (l.getD (l.length - 1 - k) txz).rev b=true then 0 else if(zai b (l.getD (l.length - 1 - k) txz).info).isSome=true then 1 else zcr (l.reverse.drop (k+1)) b:=by
 rw[z3b h,zcr]
theorem zj3{base:Nat}{w A B:World}{row:Option Nat}(h:Below base w A)(hb:base≤w.heap.size)(hg:A.grownBy B row)(hr:∀r,row=some r→base≤r):Below base w B:=
 h.trans ((Below.refl base A).grown hg (Nat.le_trans hb h.size) hr)
theorem zpa{n:Nat}{tmps:Array Value}{w V:World}{b Dm:Nat}{x y:Int}(hD:b<Dm)(hmk:V.heap[Dm]?=some (.deferred (some [])))(hB:Below w.heap.size w V)(hb:V.heap[b]?=some (.cells #[.int .i64 x] 3 (0,0)))(hw:w.heap.size≤b)
  (h4:tmps.getD 4 undef=.pointer (some ⟨b,0,none⟩)) (hy:x=y):
  bodyPostM Fence.wide n prog Tryz.f142 (fun e w'=>e=.returned (.int .i64 y)∧Below w.heap.size w w') .ret ⟨tmps,[{target:=.collected Dm,args:=#[]}]⟩ V:=by
 subst hy;refine zka [Dm] V (by simp) (fun r hr=>by rw[List.mem_singleton.1 hr];exact hmk) ?_;have C:(z38 [Dm] V).heap[b]?=some (.cells #[.int .i64 x] 3 (0,0)):=(znh [Dm] V b (fun r hr=>by rw[List.mem_singleton.1 hr];omega)).trans hb;have B:=cell_of_row (z38 [Dm] V) _ 0 _ _ _ C;have A:tmps[4]?.getD undef=.pointer (some ⟨b,0,none⟩):=by simpa using h4
 refine⟨.int .i64 x,?_,rfl,hB.trans (zni [Dm] V (fun r hr=>by rw[List.mem_singleton.1 hr];omega) (by simp) (fun r hr=>by rw[List.mem_singleton.1 hr];exact hmk))⟩;simp[results,results142,go_sem,A,B]
theorem zmv(a:Option Addr)(c:Nat)(l:List Tx)(b:Int)(w:World)(h:SegTx w a l)(hn:l.length≤maxLen):
  Calls prog 142 #[.slice a l.length c,.int .i64 b] w fun e w'=>e=.returned (.int .i64 (zcr l.reverse b))∧Below w.heap.size w w':=by
 have HS:=zaa h;clear h;refine(callsIn_wide (n:=9)).1 ?_;refine callsIn_of_wp_marks func142 rfl trivial ?_ rfl;simp only[ntmps142,List.size_toArray,List.length_cons,List.length_nil,Nat.reduceAdd,Nat.reduceSub,Array.replicate_succ,Array.replicate_zero,List.push_toArray,List.append_toArray,List.nil_append,List.cons_append]
 gi_wp2_with fail
 obtain⟨I,S⟩:∃I,I=(w.alloc (.cells #[.int .i64 b] 3)).alloc (.cells #[.int .i64 0] 3):=⟨_,rfl⟩;have C0:Below w.heap.size w I:=by rw[S];exact zae (zab _ _) (zab _ _)
 have B9:I.heap.size=w.heap.size+1+1:=by rw[S];simp
 have C3:I.heap[w.heap.size]?=some (.cells #[.int .i64 b] 3 (0,0)):=by rw[S];exact zhl (Below.refl _ _)
 have B7:(w.alloc (.cells #[.int .i64 b] 3)).heap.size=w.heap.size+1:=by simp
 have C2:I.heap[w.heap.size+1]?=some (.cells #[.int .i64 0] 3 (0,0)):=by rw[S,←B7];exact heap_alloc_new _ _
 rw[←S];clear S B7;have C8:=zaa C0;have C1:=zaa C3;have D:=zaa C2;have s:=zaa B9;clear C0 C3 C2 B9;refine⟨trivial,(z29 Fence.wide 8 trivial rfl a l.length c I).mono ?_⟩;rintro e L ⟨rfl,A6⟩;have A0:Below I.heap.size I L:=by rw[A6];exact zab _ _
 have cS:L.cell? ⟨I.heap.size,0,none⟩=some (.slice a l.length c):=by rw[A6];simp[go_sem]
 have B8:L.heap.size=I.heap.size+1:=by rw[A6];simp
 have A2:=zaa (zae C8.o A0);have D6:=zaa (zad A0 (by have:=s.o;omega) C1.o);have A9:=zaa (zad A0 (by have:=s.o;omega) D.o);have u:Hid (I.heap.size=w.heap.size+1+1∧L.heap.size=w.heap.size+1+1+1):=⟨s.o,by rw[B8,s.o]⟩;have D5:=zaa (HS.o.below A2.o);have D7:=zaa cS;clear A6 cS A0 B8 C1 D C8 s
 gi_wp2_with fail
 obtain⟨cc,D4,A8⟩:=zrn Fence.wide 8 trivial rfl (by decide) I.heap.size c a l hn L (by have:=u.o;omega) D7.o D5.o;have D2:=zaa A8;clear A8
 refine zrm (F:=Fence.wide) (n:=9) rfl (by decide) (gf:=209) (lb:=#[.pointer (some ⟨I.heap.size,0,none⟩)]) rfl trivial (enters_of func209 (by kernel_rfl) rfl)
  D4 (Below.refl _ _) KeepsR.trans KeepsR.put (fun _=>rfl)
  (fun k V=>Below L.heap.size L V∧zcr l.reverse b=zcr (l.reverse.drop k) b)
  ?own ?start
  (fun q V=>Below w.heap.size w V∧w.heap.size+1+1+1≤V.heap.size∧((q=.ret∧zcr l.reverse b=0∧V.heap[w.heap.size+1]?=some (.cells #[.int .i64 0] 3 (0,0)))∨(q=.exit 0∧zcr l.reverse b=1∧V.heap[w.heap.size+1]?=some (.cells #[.int .i64 0] 3 (0,0)))))
  ?ownS
  (fun k a' V=>∃B6 A4 A1 t Y c0 j c1 r d,a'=⟨#[.slice a l.length c,.int .i64 b,undef,.pointer (some ⟨w.heap.size,0,none⟩),.pointer (some ⟨w.heap.size+1,0,none⟩),undef,.pointer (some ⟨B6,0,none⟩),undef,undef,.slice a l.length c,.func (.func 209) #[] #[.pointer (some ⟨I.heap.size,0,none⟩)],A4,A1,undef,undef,undef,undef,undef,undef,undef,undef,undef,undef,undef,undef],[]⟩∧Below L.heap.size L V∧zcr l.reverse b=zcr (l.reverse.drop k) b∧t=l.getD (l.length - 1 - k) txz∧L.heap.size≤B6∧V.heap[B6]?=some (.cells #[.int .i64 t.seq,.slice Y t.info.length c0,.slice j t.data.length c1,.slice r t.rev.length d,.bool t.h0.on,.int .i64 t.h0.left,.bool t.h1.on,.int .i64 t.h1.left,.bool t.h2.on,.int .i64 t.h2.left] 40 (0,0))∧IsTx L (.agg #[.int .i64 t.seq,.slice Y t.info.length c0,.slice j t.data.length c1,.slice r t.rev.length d,.bool t.h0.on,.int .i64 t.h0.left,.bool t.h1.on,.int .i64 t.h1.left,.bool t.h2.on,.int .i64 t.h2.left]) t)
  ?ownJ ?assign ?body ?done ?out
 case own=>
  rintro k A B row ⟨C,J⟩ N z;exact⟨zj3 C (Nat.le_refl _) N (fun r e=>(z r e).1),J⟩
 case start=>exact⟨Below.refl _ _,rfl⟩
 case ownS=>
  rintro q A B row ⟨C,J,h3⟩ N z;have y:=u.o;have B5:B.heap[w.heap.size+1]?=A.heap[w.heap.size+1]?:=N.block _ (by omega) (fun e=>by have:=(z _ e.symm).1;omega);exact⟨zj3 C (Nat.le_refl _) N (fun r e=>by have:=(z r e).1;omega),Nat.le_trans J N.size,by rw[B5];exact h3⟩
 case ownJ=>
  rintro k a' A B row ⟨B6,A4,A1,t,Y,c0,j,c1,r,d,rfl,C,J,i,C4,h6,hT⟩ N z;refine⟨B6,A4,A1,t,Y,c0,j,c1,r,d,rfl,zj3 C (Nat.le_refl _) N (fun r e=>(z r e).1),J,i,C4,?_,hT⟩;refine(N.block _ (Array.getElem?_eq_some_iff.1 h6).1 (fun e=>?_)).trans h6;obtain⟨_,o,M,hc⟩:=z _ e.symm;rw[h6]at M;cases M;cases hc
 case assign=>
  rintro lp k V K A3 ⟨C,J⟩ D3 O;unfold z3a;have hv:=D2.o (l.length - 1 - k) (by omega);obtain⟨t,i⟩:∃t,t=l.getD (l.length - 1 - k) txz:=⟨_,rfl⟩;rw[←i]at hv;have B0:=hv;obtain⟨Y,c0,j,c1,r,d,B3,_⟩:=hv;simp only[Value.agg.injEq]at B3;rw[B3]at B0⊢;have C7:=fun q (hq:q<V.heap.size)=>Below.heap_alloc V (.cells #[.int .i64 t.seq,.slice Y t.info.length c0,.slice j t.data.length c1,.slice r t.rev.length d,.bool t.h0.on,.int .i64 t.h0.left,.bool t.h1.on,.int .i64 t.h1.left,.bool t.h2.on,.int .i64 t.h2.left] 40) q hq;have B2:=zaa C7;have HK:=zaa O;have HT:=zaa B0;have E0:=zaa i;have Q:=zaa C;have HR:=zaa J;clear C7 O B0 B3 i C J
  gi_wp2
  refine HK.o _ _ (B2.o _ (by omega)) (B2.o _ (by omega)) (fun q _ o M _=>(B2.o q (Array.getElem?_eq_some_iff.1 M).1).trans M) ⟨V.heap.size,_,_,t,Y,c0,j,c1,r,d,rfl,Q.o.alloc Q.o.size _,HR.o,E0.o,Q.o.size,heap_alloc_new V _,HT.o⟩
 case body=>
  rintro lp k _ V A3 ⟨B6,A4,A1,t,Y,c0,j,c1,r,d,rfl,C,J,i,C4,h6,hT⟩ D3;have B4:=(hT.below C).rows;obtain⟨hI,_,C5,D1,_,C9⟩:=B4;have y:=u.o;obtain⟨⟨y0,y1,y2,y3,y4,y5,y6,y7,y8,y9⟩,_⟩:=zaj h6;have g3:=cell_of_row V _ 0 _ _ _ (zad C (show w.heap.size<L.heap.size by omega) D6.o);have X:=zad C (show w.heap.size+1<L.heap.size by omega) A9.o;have g4:=cell_of_row V _ 0 _ _ _ X;have f4:=frozen_of_row V _ 0 _ _ X;have Z:=zxn A3 b;rw[←i,←J]at Z;have U:=zaa Z;have Q:=zaa C;have HI:=zaa hI;have E4:=zaa C5;have D:=zaa X;have E1:=C.size;have E3:=zaa D1;have E2:=zaa C9
  have B1:∃b' off,a=some ⟨b',off,none⟩∧b'<w.heap.size:=by
   rcases HS.o with e|⟨b',off,e,hlt,_⟩
   ·rw[e]at A3;simp at A3
   ·exact⟨b',off,e,hlt⟩
  have D9:=zaa B1;clear C J i h6 hT hI C5 Z y X y0 y2 y4 y5 y6 y7 y8 y9 D1 C9 B1
  gi_wp2_with fail
  refine⟨trivial,(CallsIn.inRound lp (callsIn_wide.2 (zc8 r d t.rev b V E4.o E2.o))).mono ?_⟩;rintro e V1 ⟨rfl,rfl⟩;by_cases hA:za7 t.rev b=true
  ·have R:Hid (zcr l.reverse b=0):=by rw[Hid,U.o,if_pos hA]
   rw[hA];clear hA U
   gi_wp2
   have y:=u.o;obtain⟨b',off,D8,E6⟩:=D9.o;refine⟨⟨Below.heap_setCell _ _ _ _ (by simp only;omega),Below.heap_setCell _ _ _ _ (by simp only;omega)⟩,fun q hq o M _=>(Below.heap_setCell _ _ _ _ ?_).trans M,(zae A2.o Q.o).setCell (p:=⟨w.heap.size+1,0,none⟩) (by simp only;omega) _,by simp only[World.setCell,Array.size_modify];omega,.inl ⟨rfl,R.o,heap_setCell_same _ _ 0 _ _ _ D.o⟩⟩;rcases hq with e|e
   ·rw[e];simp only;omega
   ·rw[e,D8];simp only[zy4];omega
  ·have A7:za7 t.rev b=false:=by simpa using hA
   rw[A7]
   gi_wp2_with fail
   refine⟨trivial,(CallsIn.inRound lp (callsIn_wide.2 (zk7 Y c0 t.info b V HI.o E3.o))).mono ?_⟩;rintro e V1 ⟨rfl,A5⟩;by_cases hG:(zai b t.info).isSome=true
   ·have R:Hid (zcr l.reverse b=1):=by rw[Hid,U.o,if_neg hA,if_pos hG]
    have E:=zaa A5;rw[hG];clear hA A7 hG U A5
    gi_wp2
    have y:=u.o;have E7:=E.o.size;exact⟨⟨E.o.block _ (by omega),E.o.block _ (by omega)⟩,fun q _ o M _=>zad E.o (Array.getElem?_eq_some_iff.1 M).1 M,zae (zae A2.o Q.o) E.o,by omega,.inr ⟨rfl,R.o,zad E.o (by omega) D.o⟩⟩
   ·have R:Hid (zcr l.reverse b=zcr (l.reverse.drop (k+1)) b):=by rw[Hid,U.o,if_neg hA,if_neg hG]
    have C6:(zai b t.info).isSome=false:=by simpa using hG
    have E:=zaa A5;rw[C6];clear hA A7 hG C6 U A5
    gi_wp2
    have y:=u.o;exact⟨⟨E.o.block _ (by omega),E.o.block _ (by omega)⟩,fun q _ o M _=>zad E.o (Array.getElem?_eq_some_iff.1 M).1 M,zae Q.o E.o,R.o⟩
 case done=>
  rintro Dm V hD ⟨C,J⟩ O;have y:=u.o;have E1:=C.size;have X:=zad C (show w.heap.size+1<L.heap.size by omega) A9.o;have g4:=cell_of_row V _ 0 _ _ _ X;have f4:=frozen_of_row V _ 0 _ _ X;have R:Hid (zcr l.reverse b=1):=by rw[Hid,J,List.drop_of_length_le (by simp)];rfl
  have x:=zaa (zae A2.o C);have D:=zaa X;have m:=zaa O;have E5:=(Array.getElem?_eq_some_iff.1 O).1;clear C J O X
  gi_wp2
  refine zpa (b:=w.heap.size+1) (by omega) ((Below.heap_setCell _ _ _ _ (by simp only;omega)).trans m.o) (x.o.setCell (p:=⟨w.heap.size+1,0,none⟩) (by simp only;omega) _) (heap_setCell_same _ _ 0 _ _ _ D.o) (by omega) rfl R.o.symm
 case out=>
  rintro q Dm V hD ⟨C,J,h3⟩ O;have y:=u.o;rcases h3 with⟨rfl,h4,h5⟩|⟨rfl,h4,h5⟩
  ·have R:=zaa h4;have x:=zaa C;have D:=zaa h5;have m:=zaa O;clear h4 C h5 O
   gi_wp2
   exact zpa (b:=w.heap.size+1) (by omega) m.o x.o D.o (by omega) rfl R.o.symm
  ·have g4:=cell_of_row V _ 0 _ _ _ h5;have f4:=frozen_of_row V _ 0 _ _ h5;have R:=zaa h4;have x:=zaa C;have D:=zaa h5;have m:=zaa O;clear h4 C h5 O
   gi_wp2
   exact zpa (b:=w.heap.size+1) (by omega) ((Below.heap_setCell _ _ _ _ (by simp only;omega)).trans m.o) (x.o.setCell (p:=⟨w.heap.size+1,0,none⟩) (by simp only;omega) _) (heap_setCell_same _ _ 0 _ _ _ D.o) (by omega) rfl R.o.symm
